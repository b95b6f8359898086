package tests

import (
	"slices"
	"sort"
	"strings"
	"testing"

	"loop.example/temse/impl"
)

// allKeys is every key there is, ascending.
func allKeys() []string {
	all := []string{""}
	for from, size := 0, 1; size <= 5; size++ {
		to := len(all)
		for _, k := range all[from:to] {
			all = append(all, k+"a", k+"b", k+"c", k+"d")
		}
		from = to
	}
	sort.Strings(all)
	return all
}

// notKeys is strings that are no keys.
func notKeys() []string {
	all := []string{
		"e", "`", "A", "D", "ab ", " ab", "a b", "a\n", "a\x00", "-", ".a", "á", "ä", "ａ", "aé", "abcde", "eabcd",
		"abcdab", "aaaaaa", "dddddd", "aaaaaaa", strings.Repeat("abcd", 100),
	}
	for c := range 256 {
		if c < 'a' || c > 'd' {
			s := string([]byte{byte(c)})
			all = append(all, s, s+"ab", "ab"+s, "a"+s+"b", "abcd"+s)
		}
	}
	return all
}

// mixedKeys is n keys without a pattern, the same on each run; more of them are the same if there are few letters.
func mixedKeys(n int, letters uint32, seed uint32) []string {
	keys := make([]string, n)
	for i := range keys {
		seed = seed*1664525 + 1013904223
		size := seed >> 24 % 6
		for range size {
			seed = seed*1664525 + 1013904223
			keys[i] += string(rune('a' + seed>>24%letters))
		}
	}
	return keys
}

// plainSorted is the keys among some strings, ascending, each once, asked one by one of every key there is.
func plainSorted(texts []string) []string {
	var sorted []string
	for _, k := range allKeys() {
		if slices.Contains(texts, k) {
			sorted = append(sorted, k)
		}
	}
	return sorted
}

// someKeyLists is key lists of every length.
func someKeyLists() [][]string {
	all := allKeys()
	lists := [][]string{nil, {}, {""}, {"a"}, {"d"}, {"ddddd"}, {"", "a"}, {"", "ddddd"}, {"a", "aa", "aaa", "aaaa", "aaaaa"}, {"a", "b", "c", "d"}, {"aaaaa", "b"}}
	for n := range 25 {
		lists = append(lists, all[:n], all[700:700+n], all[len(all)-n:])
		var spread []string
		for i := range n {
			spread = append(spread, all[i*56+n])
		}
		lists = append(lists, spread)
	}
	return lists
}

// notKeyLists is lists of strings that are no key lists.
func notKeyLists() [][]string {
	all := allKeys()
	lists := [][]string{
		{"", ""}, {"a", "a"}, {"a", "a", "b"}, {"a", "b", "b"}, {"b", "a"}, {"a", ""}, {"aa", "a"}, {"a", "c", "b"}, {"b", "a", "c"},
		{"", "a", "b", "c", "d", "a"}, {"ddddd", ""}, {"a", "b", "", "c"},
		{"e"}, {"`"}, {"a", "e"}, {"", "e"}, {"A", "a"}, {"abcdab"}, {"a", "aaaaaa"}, {"aaaaaa", "b"}, {"a", "ae", "b"},
		all[:25], all[100:125], all[len(all)-25:], all,
	}
	for _, n := range notKeys() {
		lists = append(lists, []string{n}, []string{"", n}, slices.Sorted(slices.Values([]string{"a", n, "d"})))
	}
	same := slices.Clone(all[:24])
	same[23] = same[22]
	swapped := slices.Clone(all[:24])
	swapped[0], swapped[1] = swapped[1], swapped[0]
	return append(lists, same, swapped, slices.Repeat([]string{""}, 25))
}

// mixedLists is lists of any strings: keys or not, in order or not, the same twice or not.
func mixedLists() [][]string {
	all := allKeys()
	back := slices.Clone(all)
	slices.Reverse(back)
	lists := append(someKeyLists(), notKeyLists()...)
	lists = append(lists, back, slices.Concat(all, back), notKeys(), slices.Repeat([]string{"a", ""}, 300), slices.Repeat([]string{"e"}, 30))
	for n := range uint32(40) {
		list := mixedKeys(int(n*n/4), n%4+1, n)
		if n%2 == 1 {
			list = slices.Concat(notKeys()[:n], list, notKeys()[n:2*n])
		}
		lists = append(lists, list)
	}
	return lists
}

// places is strings to search from: keys and others.
func places() []string {
	return append(append(notKeys(), mixedKeys(60, 4, 9)...), "", "a", "b", "c", "d", "aaaaa", "ddddd", "ddddda", "\x00", "\xff", "aaaaa\x00", "da")
}

// begin is the first strings of a list, so that a long one does not fill the report.
func begin(list []string) []string {
	return list[:min(len(list), 30)]
}

func TestLimitsOfKeys(t *testing.T) {
	if impl.KeyMax != 5 || impl.KeysMax != 24 {
		t.Error(impl.KeyMax, impl.KeysMax)
	}
}

func TestKeyOkTakesKeysOnly(t *testing.T) {
	all := allKeys()
	if len(all) != 1365 {
		t.Fatal(len(all))
	}
	for _, k := range all {
		if !impl.KeyOk(k) {
			t.Errorf("KeyOk(%q) is false", k)
		}
	}
	for _, k := range notKeys() {
		if impl.KeyOk(k) {
			t.Errorf("KeyOk(%q) is true", head(k))
		}
	}
}

func TestKeyMaxIsInclusive(t *testing.T) {
	for _, c := range []string{"a", "b", "c", "d"} {
		if !impl.KeyOk(strings.Repeat(c, 5)) || impl.KeyOk(strings.Repeat(c, 6)) {
			t.Error(c, impl.KeyOk(strings.Repeat(c, 5)), impl.KeyOk(strings.Repeat(c, 6)))
		}
	}
}

func TestKeysOkTakesKeyListsOnly(t *testing.T) {
	for _, keys := range someKeyLists() {
		if !impl.KeysOk(keys) {
			t.Errorf("KeysOk(%q) is false", keys)
		}
	}
	for _, keys := range notKeyLists() {
		if impl.KeysOk(keys) {
			t.Errorf("KeysOk(%q) is true", begin(keys))
		}
	}
}

func TestKeysMaxIsInclusive(t *testing.T) {
	all := allKeys()
	for _, from := range []int{0, 1, 500, len(all) - 25} {
		if !impl.KeysOk(all[from:from+24]) || impl.KeysOk(all[from:from+25]) {
			t.Error(from, impl.KeysOk(all[from:from+24]), impl.KeysOk(all[from:from+25]))
		}
		if k, ok := impl.KeyFirst(all[from:from+24], all[from+23]); !ok || k != all[from+23] {
			t.Error(from, "the last of 24 keys", k, ok)
		}
		if k, ok := impl.KeyFirst(all[from:from+25], all[from]); ok || k != "" {
			t.Error(from, "the first of 25 keys", k, ok)
		}
	}
}

// Promise 5.
func TestEveryContiguousPartOfAKeyListIsOne(t *testing.T) {
	for _, keys := range someKeyLists() {
		for from := range len(keys) + 1 {
			for to := from; to <= len(keys); to++ {
				if !impl.KeysOk(keys[from:to]) {
					t.Fatalf("KeysOk(%q) is false", keys[from:to])
				}
			}
		}
	}
}

// Promise 5.
func TestAKeyListIsInOrder(t *testing.T) {
	small := []string{"", "a", "aa", "ab", "b", "e", "aaaaaa"}
	for _, a := range small {
		for _, b := range small {
			for _, c := range small {
				keys := []string{a, b, c}
				want := a < b && b < c && c != "e" && b != "aaaaaa" && a != "aaaaaa" && c != "aaaaaa"
				if ok := impl.KeysOk(keys); ok != want {
					t.Errorf("KeysOk(%q) is %v", keys, ok)
				}
			}
		}
	}
	for _, keys := range someKeyLists() {
		for i := 1; i < len(keys); i++ {
			changed := slices.Clone(keys)
			changed[i-1], changed[i] = keys[i], keys[i-1]
			if impl.KeysOk(changed) {
				t.Fatalf("KeysOk(%q) is true", changed)
			}
			changed[i-1], changed[i] = keys[i], keys[i]
			if impl.KeysOk(changed) {
				t.Fatalf("KeysOk(%q) is true", changed)
			}
		}
	}
}

// Promise 6.
func TestKeysSortHasExactlyTheKeysOnceAscending(t *testing.T) {
	for _, list := range mixedLists() {
		sorted := impl.KeysSort(list)
		if want := plainSorted(list); !slices.Equal(sorted, want) {
			t.Errorf("KeysSort(%q) is %q, not %q", begin(list), begin(sorted), begin(want))
		}
		for i := 1; i < len(sorted); i++ {
			if sorted[i-1] >= sorted[i] {
				t.Errorf("KeysSort(%q) has %q ahead of %q", begin(list), sorted[i-1], sorted[i])
			}
		}
		if again := impl.KeysSort(sorted); !slices.Equal(again, sorted) {
			t.Errorf("KeysSort(%q) is %q", begin(sorted), begin(again))
		}
		if impl.KeysOk(sorted) != (len(sorted) <= 24) {
			t.Errorf("KeysOk of %d sorted keys is %v", len(sorted), impl.KeysOk(sorted))
		}
	}
}

func TestKeysSortOfNoKeys(t *testing.T) {
	for _, list := range [][]string{nil, {}, {"e"}, {"abcdab", "A"}, notKeys()} {
		if sorted := impl.KeysSort(list); len(sorted) != 0 {
			t.Errorf("KeysSort(%q) is %q", begin(list), begin(sorted))
		}
	}
}

func TestKeysSortIsNotLimitedToAKeyList(t *testing.T) {
	all := allKeys()
	for _, n := range []int{24, 25, 1365} {
		back := slices.Clone(all[:n])
		slices.Reverse(back)
		if sorted := impl.KeysSort(slices.Concat(back, all[:n])); !slices.Equal(sorted, all[:n]) {
			t.Errorf("KeysSort of %d keys has %d", n, len(sorted))
		}
	}
}

// Promise 7.
func TestEveryStringBeginsWithItselfAndTheEmptyString(t *testing.T) {
	for _, k := range append(allKeys(), places()...) {
		if !impl.KeyBegins(k, k) || !impl.KeyBegins(k, "") {
			t.Errorf("%q: %v, %v", head(k), impl.KeyBegins(k, k), impl.KeyBegins(k, ""))
		}
		if impl.KeyBegins(k, k+"a") || impl.KeyBegins(k, k+"\x00") || impl.KeyBegins(k, k+k+"a") {
			t.Errorf("%q begins with a longer string", head(k))
		}
		if k != "" && (impl.KeyBegins("", k) || impl.KeyBegins("a"+k, k) != (strings.Trim(k, "a") == "")) {
			t.Errorf("%q: %v, %v", head(k), impl.KeyBegins("", k), impl.KeyBegins("a"+k, k))
		}
		for n := range len(k) + 1 {
			if !impl.KeyBegins(k, k[:n]) {
				t.Errorf("%q does not begin with %q", head(k), head(k[:n]))
			}
		}
	}
}

// Promise 7.
func TestAStringIsNotLessThanItsPrefixes(t *testing.T) {
	texts := append(mixedKeys(100, 2, 5), "", "a", "ab", "abc", "abd", "e", "\x00", "\xff", "\xff\xff", "abcdab", "abcdabc", "ä", "\xc3")
	for _, k := range texts {
		for _, prefix := range texts {
			want := strings.HasPrefix(k, prefix)
			if ok := impl.KeyBegins(k, prefix); ok != want {
				t.Errorf("KeyBegins(%q, %q) is %v", k, prefix, ok)
			} else if ok && k < prefix {
				t.Errorf("%q is less than its prefix %q", k, prefix)
			}
		}
	}
}

// Promise 8.
func TestKeyFirstIsTheSmallestKeyThatIsNotLess(t *testing.T) {
	for _, keys := range someKeyLists() {
		for _, from := range append(places(), keys...) {
			want, wantOk := "", false
			for _, k := range keys {
				if k >= from && (!wantOk || k < want) {
					want, wantOk = k, true
				}
			}
			if k, ok := impl.KeyFirst(keys, from); k != want || ok != wantOk {
				t.Fatalf("KeyFirst(%q, %q) is %q, %v, not %q, %v", keys, head(from), k, ok, want, wantOk)
			}
		}
	}
}

func TestKeyFirstAtItsEdges(t *testing.T) {
	keys := []string{"ab", "b", "ca"}
	for _, c := range []struct {
		keys       []string
		from, want string
		ok         bool
	}{
		{keys, "", "ab", true}, {keys, "a", "ab", true}, {keys, "ab", "ab", true}, {keys, "aba", "b", true}, {keys, "ab\x00", "b", true},
		{keys, "b", "b", true}, {keys, "c", "ca", true}, {keys, "ca", "ca", true}, {keys, "caa", "", false}, {keys, "d", "", false},
		{keys, "e", "", false}, {keys, "A", "ab", true}, {keys, "abcdabcd", "b", true}, {keys, "\xff", "", false},
		{[]string{"", "a"}, "", "", true}, {[]string{""}, "", "", true}, {[]string{""}, "a", "", false}, {[]string{""}, "\x00", "", false},
		{nil, "", "", false}, {[]string{}, "", "", false}, {nil, "a", "", false},
	} {
		if k, ok := impl.KeyFirst(c.keys, c.from); k != c.want || ok != c.ok {
			t.Errorf("KeyFirst(%q, %q) is %q, %v", c.keys, c.from, k, ok)
		}
	}
}

func TestKeyFirstOfNoKeyList(t *testing.T) {
	for _, keys := range notKeyLists() {
		for _, from := range append([]string{"", "a", "b", "e"}, keys...) {
			if k, ok := impl.KeyFirst(keys, from); ok || k != "" {
				t.Fatalf("KeyFirst(%q, %q) is %q, %v", begin(keys), head(from), k, ok)
			}
		}
	}
}

// Promise 9.
func TestKeysSortOfTwoListsDoesNotDependOnTheirOrder(t *testing.T) {
	lists := [][]string{nil, {""}, {"b", "a"}, {"a", "b"}, {"e", "a"}, {"", "ddddd", "d"}, notKeys()[:20], mixedKeys(50, 4, 3), mixedKeys(50, 2, 4), mixedKeys(70, 1, 5), allKeys()[:25]}
	for _, a := range lists {
		for _, b := range lists {
			one, other := impl.KeysSort(slices.Concat(a, b)), impl.KeysSort(slices.Concat(b, a))
			if !slices.Equal(one, other) {
				t.Errorf("KeysSort of %q and %q is %q, or %q", a, b, one, other)
			}
			each := impl.KeysSort(slices.Concat(impl.KeysSort(b), impl.KeysSort(a)))
			if !slices.Equal(one, each) {
				t.Errorf("KeysSort of %q and %q is %q, or, of both sorted, %q", a, b, one, each)
			}
		}
	}
}

func TestKeyFunctionsLeaveTheirListsAlone(t *testing.T) {
	for _, list := range mixedLists() {
		// The spare room behind the list is its owner's too.
		room := slices.Concat(list, []string{"spare", "room", "b", "a"})
		was := slices.Clone(room)
		given := room[:len(list)]
		impl.KeysOk(given)
		sorted := impl.KeysSort(given)
		impl.KeyFirst(given, "b")
		if !slices.Equal(room, was) {
			t.Fatalf("%q has become %q", begin(was), begin(room))
		}
		sorted = sorted[:cap(sorted)]
		for i := range sorted {
			sorted[i] = "mine"
		}
		if !slices.Equal(room, was) {
			t.Fatalf("KeysSort(%q) shares memory with its argument", begin(was))
		}
	}
}
