package tests

import (
	"math"
	"slices"
	"strconv"
	"strings"
	"testing"

	"loop.example/temse/impl"
)

// plainHead is a kept part as the document defines it.
type plainHead struct {
	text     string
	complete bool
}

// withPrefix is the keys that begin with a prefix.
func withPrefix(keys []string, prefix string) []string {
	var found []string
	for _, k := range keys {
		if strings.HasPrefix(k, prefix) {
			found = append(found, k)
		}
	}
	return found
}

// firstLetters is at most n letters of a text.
func firstLetters(text string, n int) string {
	return text[:min(n, len(text))]
}

// plainNodes is the common prefixes of the nodes of a key list, in level order.
func plainNodes(keys []string) []string {
	nodes := []string{""}
	for size := 1; size <= 5; size++ {
		for _, k := range keys {
			if len(k) >= size && !slices.Contains(nodes, k[:size]) && len(withPrefix(keys, k[:size])) > 1 {
				nodes = append(nodes, k[:size])
			}
		}
	}
	return nodes
}

// plainSieve is the filter of a key list, asked of each prefix and each label one by one.
func plainSieve(keys []string, keep int) impl.Sieve {
	s := impl.Sieve{Keep: keep}
	for _, prefix := range plainNodes(keys) {
		first := "1"
		for _, label := range []string{"-", "a", "b", "c", "d"} {
			group := withPrefix(keys, prefix+label)
			if label == "-" && slices.Contains(keys, prefix) {
				group = []string{prefix}
			}
			if len(group) == 0 {
				continue
			}
			s.Letters += label
			s.First += first
			first = "0"
			if len(group) > 1 {
				s.More += "1"
				continue
			}
			s.More += "0"
			s.Rests = append(s.Rests, firstLetters(strings.TrimPrefix(group[0], prefix+strings.Trim(label, "-")), keep))
		}
	}
	return s
}

// plainHeads is the kept part of each key: its letters up to where no other key goes along, and at most keep more.
func plainHeads(keys []string, keep int) []plainHead {
	var heads []plainHead
	for _, k := range keys {
		size := 1
		for size < len(k) && len(withPrefix(keys, k[:size])) > 1 {
			size++
		}
		if k == "" || len(withPrefix(keys, k[:size])) > 1 {
			heads = append(heads, plainHead{k, true})
		} else {
			heads = append(heads, plainHead{firstLetters(k, size+keep), len(k) < size+keep})
		}
	}
	return heads
}

func plainTexts(heads []plainHead) []string {
	var texts []string
	for _, h := range heads {
		texts = append(texts, h.text)
	}
	return texts
}

func plainHas(heads []plainHead, k string) bool {
	return slices.ContainsFunc(heads, func(h plainHead) bool {
		return h.text == k || !h.complete && strings.HasPrefix(k, h.text)
	})
}

func plainSeek(heads []plainHead, from string) (string, bool) {
	for _, h := range heads {
		if h.text >= from || !h.complete && strings.HasPrefix(from, h.text) {
			return h.text, true
		}
	}
	return "", false
}

func plainMeets(heads []plainHead, from, to string) bool {
	text, ok := plainSeek(heads, from)
	return ok && from <= to && text <= to
}

func sameSieve(a, b impl.Sieve) bool {
	return a.Letters == b.Letters && a.More == b.More && a.First == b.First && slices.Equal(a.Rests, b.Rests) && a.Keep == b.Keep
}

// copySieve is a filter whose Rests are its own, with no room to spare.
func copySieve(s impl.Sieve) impl.Sieve {
	s.Rests = slices.Clip(slices.Clone(s.Rests))
	return s
}

// sieveLists is key lists for filters: of every length, close together, spread, and one a prefix of the other.
func sieveLists() [][]string {
	all := allKeys()
	lists := [][]string{
		nil, {}, {""}, {"a"}, {"d"}, {"ab"}, {"abc"}, {"abcda"}, {"ddddd"}, {"", "a"}, {"", "ddddd"}, {"", "abcd", "abcda"}, {"a", "ab"}, {"ab", "abcda"},
		{"a", "b", "c", "d"}, {"", "a", "b", "c", "d"}, {"a", "aa", "aaa", "aaaa", "aaaaa"}, {"", "a", "aa", "aaa", "aaaa", "aaaaa"},
		{"aaaaa", "aaaab"}, {"aaaaa", "aaaab", "aaaac", "aaaad"}, {"aaaa", "aaaaa", "aaaab", "aaaac", "aaaad"}, {"aaaaa", "aaaab", "ddddc", "ddddd"},
		{"a", "abc", "abd", "cda"}, {"ab", "abc", "b", "bcd", "bcdab", "d"},
		all[:24], all[1:25], all[700:724], all[len(all)-24:],
	}
	var apart []string
	for i := range 24 {
		apart = append(apart, all[i*56+5])
	}
	lists = append(lists, apart)
	for n := range uint32(30) {
		sorted := impl.KeysSort(mixedKeys(int(n)+1, n%3+2, n*77+1))
		lists = append(lists, firstKeys(sorted, 24))
	}
	return lists
}

func firstKeys(keys []string, n int) []string {
	return keys[:min(n, len(keys))]
}

// probes is keys to ask a filter of some keys for: those keys, their prefixes, what lies close behind, and others.
func probes(keys []string) []string {
	some := append([]string{"", "a", "b", "c", "d", "aaaaa", "ddddd"}, mixedKeys(12, 4, uint32(len(keys)))...)
	step := len(keys)/8 + 1
	for i := 0; i < len(keys); i += step {
		for n := range len(keys[i]) + 1 {
			some = append(some, keys[i][:n])
		}
		some = append(some, keys[i]+"a", keys[i]+"d")
	}
	return impl.KeysSort(some)
}

// eachSieve hands out the filter of each of the lists with each number of kept letters.
func eachSieve(t *testing.T, do func(keys []string, keep int, s impl.Sieve)) {
	t.Helper()
	for _, keys := range sieveLists() {
		for keep := range 6 {
			s, ok := impl.SieveOf(keys, keep)
			if !ok {
				t.Fatalf("SieveOf(%q, %d) is false", keys, keep)
			}
			do(keys, keep, s)
		}
	}
}

func TestSieveOfIsTheTrieInLevelOrder(t *testing.T) {
	eachSieve(t, func(keys []string, keep int, s impl.Sieve) {
		if want := plainSieve(keys, keep); !sameSieve(s, want) {
			t.Errorf("SieveOf(%q, %d) is %v, not %v", keys, keep, s, want)
		}
		if !impl.SieveOk(s) {
			t.Errorf("SieveOk of %q with %d is false", keys, keep)
		}
		if n := impl.SieveSize(s); n != len(s.Letters) {
			t.Errorf("SieveSize of %q with %d is %d", keys, keep, n)
		}
	})
}

func TestSieveOfKeysThatAreWrittenOut(t *testing.T) {
	for _, c := range []struct {
		keys []string
		want impl.Sieve
	}{
		{nil, impl.Sieve{}},
		{nil, impl.Sieve{Keep: 5}},
		{[]string{""}, impl.Sieve{Letters: "-", More: "0", First: "1", Rests: []string{""}}},
		{[]string{""}, impl.Sieve{Letters: "-", More: "0", First: "1", Rests: []string{""}, Keep: 5}},
		{[]string{"abc"}, impl.Sieve{Letters: "a", More: "0", First: "1", Rests: []string{""}}},
		{[]string{"abc"}, impl.Sieve{Letters: "a", More: "0", First: "1", Rests: []string{"b"}, Keep: 1}},
		{[]string{"abc"}, impl.Sieve{Letters: "a", More: "0", First: "1", Rests: []string{"bc"}, Keep: 5}},
		{[]string{"", "a"}, impl.Sieve{Letters: "-a", More: "00", First: "10", Rests: []string{"", ""}, Keep: 2}},
		{[]string{"a", "abc"}, impl.Sieve{Letters: "a-b", More: "100", First: "110", Rests: []string{"", "c"}, Keep: 3}},
		{[]string{"aaaaa", "aaaab"}, impl.Sieve{Letters: "aaaaab", More: "111100", First: "111110", Rests: []string{"", ""}, Keep: 1}},
		{[]string{"a", "abc", "abd", "cda"}, impl.Sieve{Letters: "ac-bcd", More: "100100", First: "101010", Rests: []string{"d", "", "", ""}, Keep: 1}},
		{[]string{"ab", "ac", "bdd", "ca", "cb"}, impl.Sieve{Letters: "abcbcab", More: "1010000", First: "1001010", Rests: []string{"dd", "", "", "", ""}, Keep: 2}},
	} {
		if s, ok := impl.SieveOf(c.keys, c.want.Keep); !ok || !sameSieve(s, c.want) {
			t.Errorf("SieveOf(%q, %d) is %v, %v", c.keys, c.want.Keep, s, ok)
		}
		if !impl.SieveOk(c.want) {
			t.Errorf("SieveOk(%v) is false", c.want)
		}
	}
}

func TestSieveOfTakesKeyListsOnly(t *testing.T) {
	for _, keys := range notKeyLists() {
		for _, keep := range []int{-1, 0, 1, 5, 6} {
			if s, ok := impl.SieveOf(keys, keep); ok || !sameSieve(s, impl.Sieve{}) {
				t.Errorf("SieveOf(%q, %d) is %v, %v", begin(keys), keep, s, ok)
			}
		}
	}
}

func TestSieveOfTakesKeepFrom0ToKeyMax(t *testing.T) {
	for _, keys := range [][]string{nil, {""}, {"a", "abc", "abd", "cda"}} {
		for _, keep := range []int{0, 1, 2, 3, 4, 5} {
			if s, ok := impl.SieveOf(keys, keep); !ok || s.Keep != keep {
				t.Errorf("SieveOf(%q, %d) is %v, %v", keys, keep, s, ok)
			}
		}
		for _, keep := range []int{-1, 6, -5, 24, math.MinInt, math.MaxInt} {
			if s, ok := impl.SieveOf(keys, keep); ok || !sameSieve(s, impl.Sieve{}) {
				t.Errorf("SieveOf(%q, %d) is %v, %v", keys, keep, s, ok)
			}
		}
	}
}

func TestSieveOfKeysMaxKeys(t *testing.T) {
	all := allKeys()
	for _, from := range []int{0, 1, 500, len(all) - 25} {
		for keep := range 6 {
			s, ok := impl.SieveOf(all[from:from+24], keep)
			if !ok || len(impl.SieveHeads(s)) != 24 {
				t.Error(from, keep, ok, impl.SieveHeads(s))
			}
			if s, ok := impl.SieveOf(all[from:from+25], keep); ok || !sameSieve(s, impl.Sieve{}) {
				t.Error(from, keep, "25 keys", ok, s)
			}
		}
	}
}

func TestSieveHeadsAreTheKeptParts(t *testing.T) {
	eachSieve(t, func(keys []string, keep int, s impl.Sieve) {
		if heads, want := impl.SieveHeads(s), plainTexts(plainHeads(keys, keep)); !slices.Equal(heads, want) {
			t.Errorf("SieveHeads of %q with %d is %q, not %q", keys, keep, heads, want)
		}
	})
}

func TestKeptPartsThatAreCompleteOrNot(t *testing.T) {
	for _, c := range []struct {
		keys   []string
		keep   int
		heads  []string
		has    []string
		hasNot []string
	}{
		// The label "-" makes it complete, however few letters are kept.
		{[]string{"a", "abc"}, 0, []string{"a", "ab"}, []string{"a", "ab", "abc", "abddd"}, []string{"", "aa", "ac", "b"}},
		{[]string{""}, 0, []string{""}, []string{""}, []string{"a", "aaaaa", "d"}},
		{[]string{"", "a"}, 0, []string{"", "a"}, []string{"", "a", "ab", "add"}, []string{"b", "d"}},
		// A rest of fewer than Keep letters makes it complete, one of Keep letters does not, even if it is all there is.
		{[]string{"a", "abc"}, 1, []string{"a", "abc"}, []string{"a", "abc", "abca", "abcdd"}, []string{"ab", "aba", "abd"}},
		{[]string{"a", "abc"}, 2, []string{"a", "abc"}, []string{"a", "abc"}, []string{"ab", "abca", "abcdd"}},
		{[]string{"a", "ab"}, 1, []string{"a", "ab"}, []string{"a", "ab"}, []string{"aba", "abc", "aa"}},
		{[]string{"a", "ab"}, 0, []string{"a", "ab"}, []string{"a", "ab", "aba"}, []string{"aa", "ac"}},
		// A single key.
		{[]string{"abc"}, 0, []string{"a"}, []string{"a", "ab", "abc", "addd"}, []string{"", "b"}},
		{[]string{"abc"}, 1, []string{"ab"}, []string{"ab", "abc", "abddd"}, []string{"", "a", "ac"}},
		{[]string{"abc"}, 2, []string{"abc"}, []string{"abc", "abca", "abcda"}, []string{"", "a", "ab", "abd"}},
		{[]string{"abc"}, 3, []string{"abc"}, []string{"abc"}, []string{"", "a", "ab", "abca", "abcda"}},
		{[]string{"abcda"}, 4, []string{"abcda"}, []string{"abcda"}, []string{"abcd", "abcdb", "abc"}},
		// Keys that differ in the last letter only.
		{[]string{"aaaaa", "aaaab"}, 0, []string{"aaaaa", "aaaab"}, []string{"aaaaa", "aaaab"}, []string{"aaaa", "aaaac", "aaa", ""}},
	} {
		s, ok := impl.SieveOf(c.keys, c.keep)
		if heads := impl.SieveHeads(s); !ok || !slices.Equal(heads, c.heads) {
			t.Errorf("SieveHeads of %q with %d is %q", c.keys, c.keep, heads)
		}
		for _, k := range c.has {
			if !impl.SieveHas(s, k) || !impl.SieveMeets(s, k, k) {
				t.Errorf("%q with %d lacks %q: %v, %v", c.keys, c.keep, k, impl.SieveHas(s, k), impl.SieveMeets(s, k, k))
			}
		}
		for _, k := range c.hasNot {
			if impl.SieveHas(s, k) || impl.SieveMeets(s, k, k) {
				t.Errorf("%q with %d has %q: %v, %v", c.keys, c.keep, k, impl.SieveHas(s, k), impl.SieveMeets(s, k, k))
			}
		}
	}
}

func TestSieveHasByKeptParts(t *testing.T) {
	eachSieve(t, func(keys []string, keep int, s impl.Sieve) {
		heads := plainHeads(keys, keep)
		for _, k := range probes(keys) {
			if has := impl.SieveHas(s, k); has != plainHas(heads, k) {
				t.Errorf("SieveHas of %q with %d, %q, is %v", keys, keep, k, has)
			}
		}
	})
}

func TestSieveSeekByKeptParts(t *testing.T) {
	eachSieve(t, func(keys []string, keep int, s impl.Sieve) {
		heads := plainHeads(keys, keep)
		for _, from := range probes(keys) {
			text, ok := impl.SieveSeek(s, from)
			if want, wantOk := plainSeek(heads, from); text != want || ok != wantOk {
				t.Errorf("SieveSeek of %q with %d, %q, is %q, %v", keys, keep, from, text, ok)
			}
		}
	})
}

func TestSieveMeetsByKeptParts(t *testing.T) {
	eachSieve(t, func(keys []string, keep int, s impl.Sieve) {
		heads := plainHeads(keys, keep)
		some := probes(keys)
		for i, from := range some {
			for j := i % 3; j < len(some); j += 3 {
				if meets := impl.SieveMeets(s, from, some[j]); meets != plainMeets(heads, from, some[j]) {
					t.Errorf("SieveMeets of %q with %d, %q to %q, is %v", keys, keep, from, some[j], meets)
				}
			}
		}
	})
}

func TestSieveSeekAtItsEdges(t *testing.T) {
	keys := []string{"ab", "abc", "b", "cdd"}
	for _, c := range []struct {
		keys       []string
		keep       int
		from, want string
		ok         bool
	}{
		// Ahead of all kept parts, at them, between them, and behind them.
		{keys, 0, "", "ab", true}, {keys, 0, "a", "ab", true}, {keys, 0, "ab", "ab", true}, {keys, 0, "aba", "abc", true}, {keys, 0, "abcdd", "abc", true},
		{keys, 0, "abd", "b", true}, {keys, 0, "bddd", "b", true}, {keys, 0, "c", "c", true}, {keys, 0, "cddd", "c", true}, {keys, 0, "d", "", false}, {keys, 0, "ddddd", "", false},
		{keys, 5, "abca", "b", true}, {keys, 5, "ba", "cdd", true}, {keys, 5, "cdd", "cdd", true}, {keys, 5, "cdda", "", false}, {keys, 1, "cdda", "cd", true}, {keys, 1, "cda", "cd", true}, {keys, 1, "cdd", "cd", true},
		// The empty key is a kept part, too.
		{[]string{""}, 0, "", "", true}, {[]string{""}, 0, "a", "", false}, {[]string{"", "b"}, 5, "", "", true}, {[]string{"", "b"}, 5, "a", "b", true},
		{nil, 0, "", "", false}, {nil, 5, "a", "", false},
	} {
		s, _ := impl.SieveOf(c.keys, c.keep)
		if text, ok := impl.SieveSeek(s, c.from); text != c.want || ok != c.ok {
			t.Errorf("SieveSeek of %q with %d, %q, is %q, %v", c.keys, c.keep, c.from, text, ok)
		}
	}
}

func TestSieveFunctionsTakeKeysOnly(t *testing.T) {
	for _, keys := range [][]string{nil, {""}, {"a"}, {"d"}, {"", "a", "abc"}, {"ab", "abc", "b", "ddddd"}} {
		for _, keep := range []int{0, 1, 5} {
			s, _ := impl.SieveOf(keys, keep)
			for _, k := range notKeys() {
				if impl.SieveHas(s, k) {
					t.Errorf("SieveHas of %q, %q, is true", keys, head(k))
				}
				if text, ok := impl.SieveSeek(s, k); ok || text != "" {
					t.Errorf("SieveSeek of %q, %q, is %q, %v", keys, head(k), text, ok)
				}
				if impl.SieveMeets(s, k, k) || impl.SieveMeets(s, "", k) || impl.SieveMeets(s, k, "ddddd") {
					t.Errorf("SieveMeets of %q and %q is true", keys, head(k))
				}
			}
		}
	}
}

// Promise 10.
func TestEachKeyIsThereAloneAndInRanges(t *testing.T) {
	eachSieve(t, func(keys []string, keep int, s impl.Sieve) {
		for i, k := range keys {
			if !impl.SieveHas(s, k) {
				t.Errorf("SieveHas of %q with %d, %q, is false", keys, keep, k)
			}
			for _, from := range []string{"", firstLetters(k, len(k)-len(k)/2), k, keys[i/2]} {
				for _, to := range []string{k, firstLetters(k+"a", 5), keys[(i+len(keys))/2], "ddddd"} {
					if from <= k && k <= to && !impl.SieveMeets(s, from, to) {
						t.Errorf("SieveMeets of %q with %d, %q to %q, is false", keys, keep, from, to)
					}
				}
			}
		}
	})
}

// Promise 11.
func TestThereIsAKeptPartForEachKey(t *testing.T) {
	eachSieve(t, func(keys []string, keep int, s impl.Sieve) {
		heads := impl.SieveHeads(s)
		if len(heads) != len(keys) {
			t.Fatalf("%q with %d has the kept parts %q", keys, keep, heads)
		}
		for i, h := range heads {
			if !strings.HasPrefix(keys[i], h) || i > 0 && heads[i-1] >= h {
				t.Errorf("%q with %d has the kept parts %q", keys, keep, heads)
			}
		}
	})
}

// Promise 12.
func TestAKeptPartIsAPrefixOfNoOtherKey(t *testing.T) {
	eachSieve(t, func(keys []string, keep int, s impl.Sieve) {
		for i, h := range impl.SieveHeads(s) {
			for j, k := range keys {
				if i != j && h != keys[i] && strings.HasPrefix(k, h) {
					t.Errorf("%q with %d: %q is a prefix of %q, too", keys, keep, h, k)
				}
			}
		}
	})
}

// Promise 13.
func TestSieveOfTheKeptPartsIsTheFilter(t *testing.T) {
	eachSieve(t, func(keys []string, keep int, s impl.Sieve) {
		heads := impl.SieveHeads(s)
		if again, ok := impl.SieveOf(heads, keep); !ok || !sameSieve(again, s) {
			t.Errorf("SieveOf(%q, %d) is %v, %v, not %v", heads, keep, again, ok, s)
		}
	})
}

// Promise 14.
func TestThePartsOfAFilterMatch(t *testing.T) {
	eachSieve(t, func(keys []string, keep int, s impl.Sieve) {
		if len(s.More) != len(s.Letters) || len(s.First) != len(s.Letters) || len(s.Rests) != strings.Count(s.More, "0") {
			t.Errorf("%q with %d is %v", keys, keep, s)
		}
		if !impl.BitsOk(s.More) || !impl.BitsOk(s.First) || s.Keep != keep {
			t.Errorf("%q with %d is %v", keys, keep, s)
		}
		// The one node of no keys has no branch that could be its first one.
		if len(keys) > 0 && strings.Count(s.First, "1") != strings.Count(s.More, "1")+1 {
			t.Errorf("%q with %d is %v", keys, keep, s)
		}
	})
}

// Promise 15.
func TestWhatIsAcceptedStartsWithAKeptPart(t *testing.T) {
	eachSieve(t, func(keys []string, keep int, s impl.Sieve) {
		heads := impl.SieveHeads(s)
		for _, k := range probes(keys) {
			starts := slices.ContainsFunc(heads, func(h string) bool { return strings.HasPrefix(k, h) })
			if impl.SieveHas(s, k) && !starts {
				t.Errorf("SieveHas of %q with %d, %q, is true", keys, keep, k)
			}
		}
		for _, h := range heads {
			if !impl.SieveHas(s, h) {
				t.Errorf("SieveHas of %q with %d, %q, is false", keys, keep, h)
			}
		}
	})
}

// Promise 16.
func TestKeptPartsAreWholeKeysIfKeyMaxLettersAreKept(t *testing.T) {
	eachSieve(t, func(keys []string, keep int, s impl.Sieve) {
		if heads := impl.SieveHeads(s); keep == 5 && !slices.Equal(heads, keys) {
			t.Errorf("%q has the kept parts %q", keys, heads)
		}
		if strings.Count(s.More, "0") != len(keys) {
			t.Errorf("%q with %d has the ends %q", keys, keep, s.More)
		}
	})
}

// Promise 17.
func TestExactlyTheKeysAreAcceptedIfKeyMaxLettersAreKept(t *testing.T) {
	all := allKeys()
	for _, keys := range sieveLists() {
		s, _ := impl.SieveOf(keys, 5)
		for _, k := range all {
			if has := impl.SieveHas(s, k); has != slices.Contains(keys, k) {
				t.Errorf("SieveHas of %q, %q, is %v", keys, k, has)
			}
		}
	}
}

// Promise 18.
func TestWithOneMoreLetterKeptNothingElseIsAccepted(t *testing.T) {
	eachSieve(t, func(keys []string, keep int, s impl.Sieve) {
		more, ok := impl.SieveOf(keys, keep+1)
		for _, k := range probes(keys) {
			if ok && impl.SieveHas(more, k) && !impl.SieveHas(s, k) {
				t.Errorf("%q has %q with %d, and not with %d", keys, k, keep+1, keep)
			}
		}
	})
}

// Promise 19.
func TestSieveMeetsIfAKeyIsInTheRange(t *testing.T) {
	eachSieve(t, func(keys []string, keep int, s impl.Sieve) {
		some := probes(keys)
		for i, from := range some {
			first, ok := impl.KeyFirst(keys, from)
			for j := i; ok && j < len(some); j += 3 {
				if first <= some[j] && !impl.SieveMeets(s, from, some[j]) {
					t.Errorf("SieveMeets of %q with %d, %q to %q, is false", keys, keep, from, some[j])
				}
			}
		}
	})
}

// Promise 20.
func TestSieveMeetsIfAnEndIsAcceptedAndNeverReversed(t *testing.T) {
	eachSieve(t, func(keys []string, keep int, s impl.Sieve) {
		some := probes(keys)
		for i, from := range some {
			has := impl.SieveHas(s, from)
			if impl.SieveMeets(s, from, from) != has {
				t.Errorf("SieveMeets of %q with %d, %q to itself, is %v", keys, keep, from, !has)
			}
			for j := i + 1; j < len(some); j += 4 {
				to := some[j]
				if (has || impl.SieveHas(s, to)) && !impl.SieveMeets(s, from, to) {
					t.Errorf("SieveMeets of %q with %d, %q to %q, is false", keys, keep, from, to)
				}
				if impl.SieveMeets(s, to, from) {
					t.Errorf("SieveMeets of %q with %d, %q to %q, is true", keys, keep, to, from)
				}
			}
		}
	})
}

// Promise 21.
func TestSieveMeetsIsMonotone(t *testing.T) {
	eachSieve(t, func(keys []string, keep int, s impl.Sieve) {
		some := probes(keys)
		for i := range some {
			for j := i; j < len(some); j += 3 {
				if !impl.SieveMeets(s, some[i], some[j]) {
					continue
				}
				// Steps of one suffice: each greater range is reached by them.
				from, to := some[max(0, i-1)], some[min(len(some)-1, j+1)]
				if !impl.SieveMeets(s, from, some[j]) || !impl.SieveMeets(s, some[i], to) || !impl.SieveMeets(s, from, to) {
					t.Errorf("SieveMeets of %q with %d is true from %q to %q, and not from %q or to %q", keys, keep, some[i], some[j], from, to)
				}
			}
		}
	})
}

// Promise 22.
func TestSieveSeekIsAKeptPartThatIsNotLessOrAPrefix(t *testing.T) {
	eachSieve(t, func(keys []string, keep int, s impl.Sieve) {
		heads := impl.SieveHeads(s)
		for _, from := range probes(keys) {
			text, ok := impl.SieveSeek(s, from)
			if ok && (!slices.Contains(heads, text) || text < from && !strings.HasPrefix(from, text)) {
				t.Errorf("SieveSeek of %q with %d, %q, is %q", keys, keep, from, text)
			}
			if !ok && text != "" {
				t.Errorf("SieveSeek of %q with %d, %q, is %q and false", keys, keep, from, text)
			}
		}
	})
}

// Promise 23.
func TestSieveSeekIsNotGreaterThanTheFirstKey(t *testing.T) {
	eachSieve(t, func(keys []string, keep int, s impl.Sieve) {
		for _, from := range probes(keys) {
			first, there := impl.KeyFirst(keys, from)
			if text, ok := impl.SieveSeek(s, from); there && (!ok || text > first) {
				t.Errorf("SieveSeek of %q with %d, %q, is %q, %v, and not up to %q", keys, keep, from, text, ok, first)
			}
		}
	})
}

// Promise 24.
func TestTheNumberOfBranchesIsBounded(t *testing.T) {
	eachSieve(t, func(keys []string, keep int, s impl.Sieve) {
		most := len(keys)
		for _, h := range impl.SieveHeads(s) {
			most += len(h)
		}
		if n := impl.SieveSize(s); n < len(keys) || n > most {
			t.Errorf("SieveSize of %q with %d is %d", keys, keep, n)
		}
	})
}

// Promise 25.
func TestAFilterOfNoKeysAndOneOfASingleKey(t *testing.T) {
	all := allKeys()
	for keep := range 6 {
		for _, none := range [][]string{nil, {}} {
			s, ok := impl.SieveOf(none, keep)
			if !ok || !impl.SieveOk(s) || impl.SieveSize(s) != 0 || len(impl.SieveHeads(s)) != 0 || impl.SieveMeets(s, "", "ddddd") {
				t.Errorf("SieveOf(%q, %d) is %v, %v", none, keep, s, ok)
			}
			for _, k := range all {
				if _, ok := impl.SieveSeek(s, k); ok || impl.SieveHas(s, k) || impl.SieveMeets(s, k, k) {
					t.Errorf("no keys with %d have %q", keep, k)
				}
			}
		}
		for _, k := range all {
			s, ok := impl.SieveOf([]string{k}, keep)
			if !ok || impl.SieveSize(s) != 1 || s.More != "0" || s.First != "1" || len(s.Rests) != 1 {
				t.Errorf("SieveOf(%q, %d) is %v, %v", k, keep, s, ok)
			}
			if heads := impl.SieveHeads(s); len(heads) != 1 || heads[0] != firstLetters(k, keep+1) {
				t.Errorf("SieveHeads of %q with %d is %q", k, keep, heads)
			}
		}
	}
}

// Promise 26.
func TestAFurtherKeyIsAccepted(t *testing.T) {
	eachSieve(t, func(keys []string, keep int, s impl.Sieve) {
		if len(keys) == 24 {
			return
		}
		for _, k := range probes(keys) {
			more, ok := impl.SieveOf(impl.KeysSort(append(slices.Clone(keys), k)), keep)
			if !ok || !impl.SieveHas(more, k) || impl.SieveSize(more) < impl.SieveSize(s) {
				t.Errorf("%q with %d, and %q: %v, %v", keys, keep, k, ok, more)
			}
		}
	})
}

// Promise 27.
func TestNothingIsAcceptedInARangeThatIsNotMet(t *testing.T) {
	eachSieve(t, func(keys []string, keep int, s impl.Sieve) {
		some := probes(keys)
		for i := range some {
			for j := i; j < len(some) && !impl.SieveMeets(s, some[i], some[j]); j++ {
				if impl.SieveHas(s, some[j]) || impl.SieveHas(s, some[i]) {
					t.Errorf("SieveMeets of %q with %d, %q to %q, is false", keys, keep, some[i], some[j])
				}
			}
		}
	})
}

// refused says whether every function treats a filter as not valid.
func refused(s impl.Sieve) bool {
	for _, k := range []string{"", "a", "ab", "abc", "b", "cda", "ddddd"} {
		if text, ok := impl.SieveSeek(s, k); ok || text != "" || impl.SieveHas(s, k) || impl.SieveMeets(s, k, k) || impl.SieveMeets(s, "", k) {
			return false
		}
	}
	return !impl.SieveOk(s) && len(impl.SieveHeads(s)) == 0 && impl.SieveSize(s) == -1
}

func TestFiltersThatAreNotValid(t *testing.T) {
	// The filter that each of these changes is that of a, abc, abd and cda with one letter kept.
	changes := map[string]func(s *impl.Sieve){
		"Letters is short":                  func(s *impl.Sieve) { s.Letters = "ac-bc" },
		"Letters is long":                   func(s *impl.Sieve) { s.Letters = "ac-bcda" },
		"More is short":                     func(s *impl.Sieve) { s.More = "10010" },
		"More is long":                      func(s *impl.Sieve) { s.More = "1001000" },
		"More is short, and so is Rests":    func(s *impl.Sieve) { s.More, s.Rests = "10010", s.Rests[:3] },
		"More is long, and so is Rests":     func(s *impl.Sieve) { s.More, s.Rests = "1001000", append(s.Rests, "") },
		"all but Letters is short":          func(s *impl.Sieve) { s.More, s.First, s.Rests = "10010", "10101", s.Rests[:3] },
		"all but First is long":             func(s *impl.Sieve) { s.Letters, s.More, s.Rests = "ac-bcdd", "1001000", append(s.Rests, "") },
		"First is short":                    func(s *impl.Sieve) { s.First = "10101" },
		"First is long":                     func(s *impl.Sieve) { s.First = "1010100" },
		"everything but Rests is empty":     func(s *impl.Sieve) { s.Letters, s.More, s.First = "", "", "" },
		"Rests is short":                    func(s *impl.Sieve) { s.Rests = s.Rests[:3] },
		"Rests is long":                     func(s *impl.Sieve) { s.Rests = append(s.Rests, "") },
		"Rests is empty":                    func(s *impl.Sieve) { s.Rests = nil },
		"a byte of More is no bit":          func(s *impl.Sieve) { s.More = "100200" },
		"a byte of More is a blank":         func(s *impl.Sieve) { s.More = "10010 " },
		"a byte of First is no bit":         func(s *impl.Sieve) { s.First = "1010x0" },
		"a byte of First is a 2":            func(s *impl.Sieve) { s.First = "201010" },
		"Keep is below its range":           func(s *impl.Sieve) { s.Keep = -1 },
		"Keep is above its range":           func(s *impl.Sieve) { s.Keep = 6 },
		"Keep is far below its range":       func(s *impl.Sieve) { s.Keep = math.MinInt },
		"Keep is far above its range":       func(s *impl.Sieve) { s.Keep = math.MaxInt },
		"Keep is less than a rest is long":  func(s *impl.Sieve) { s.Keep = 0 },
		"labels are out of order":           func(s *impl.Sieve) { s.Letters = "ca-bcd" },
		"labels of a lower node are, too":   func(s *impl.Sieve) { s.Letters = "ac-bdc" },
		"the label - is not the first":      func(s *impl.Sieve) { s.Letters = "acb-cd"; s.More = "101000" },
		"a label is there twice":            func(s *impl.Sieve) { s.Letters = "ac-bcc" },
		"a label is no letter":              func(s *impl.Sieve) { s.Letters = "ae-bcd" },
		"a label is a capital":              func(s *impl.Sieve) { s.Letters = "Ac-bcd" },
		"a label is no text":                func(s *impl.Sieve) { s.Letters = "ac-bc\xff" },
		"the label - continues":             func(s *impl.Sieve) { s.Letters = "ac--cd" },
		"the label - of the root continues": func(s *impl.Sieve) { s.Letters = "-c-bcd" },
		"no branch leads to a node":         func(s *impl.Sieve) { s.First = "101011" },
		"no branch leads to the last node":  func(s *impl.Sieve) { s.More = "100000"; s.Rests = []string{"d", "", "", "", ""} },
		"a branch leads to its own node":    func(s *impl.Sieve) { s.More = "001001"; s.Rests = []string{"", "", "", ""} },
		"a branch leads to an earlier node": func(s *impl.Sieve) { s.More = "000011"; s.Rests = []string{"", "d", "", ""} },
		"a branch leads to no node":         func(s *impl.Sieve) { s.First = "101000" },
		"all branches continue":             func(s *impl.Sieve) { s.More, s.Rests = "111111", nil },
		"all branches continue to others":   func(s *impl.Sieve) { s.More, s.First, s.Rests = "111111", "111111", nil },
		"all branches end":                  func(s *impl.Sieve) { s.More, s.Rests = "000000", slices.Repeat([]string{""}, 6) },
		"the first branch is not First":     func(s *impl.Sieve) { s.First = "001010" },
		"no branch is First":                func(s *impl.Sieve) { s.First = "000000" },
		"a rest is longer than Keep":        func(s *impl.Sieve) { s.Rests[0] = "da" },
		"another rest is, too":              func(s *impl.Sieve) { s.Rests[3] = "aa" },
		"a rest has another letter":         func(s *impl.Sieve) { s.Rests[0] = "e" },
		"a rest has a -":                    func(s *impl.Sieve) { s.Rests[0] = "-" },
		"a rest has a capital":              func(s *impl.Sieve) { s.Rests[2] = "A" },
		"a rest follows the label -":        func(s *impl.Sieve) { s.Rests[1] = "a" },
		"a rest is much too long":           func(s *impl.Sieve) { s.Rests[3] = strings.Repeat("a", 5000) },
	}
	for name, change := range changes {
		s, ok := impl.SieveOf([]string{"a", "abc", "abd", "cda"}, 1)
		if !ok || refused(s) {
			t.Fatal(s)
		}
		change(&s)
		if !refused(s) {
			t.Errorf("%s: %v is taken", name, s)
		}
	}
}

func TestOtherFiltersThatAreNotValid(t *testing.T) {
	chain := strings.Repeat("1", 399) + "0"
	all := strings.Repeat("1", 400)
	for name, s := range map[string]impl.Sieve{
		"a node with one key":            {Letters: "ab", More: "10", First: "11", Rests: []string{""}},
		"a kept part of 6 letters":       {Letters: "aaaaaab", More: "1111100", First: "1111110", Rests: []string{"", ""}},
		"a kept part of 6, by its rest":  {Letters: "a", More: "0", First: "1", Rests: []string{"aaaaa"}, Keep: 5},
		"a rest of just Keep letters":    {Letters: "aaaaab", More: "111100", First: "111110", Rests: []string{"a", "a"}, Keep: 1},
		"a rest ahead of the label -":    {Letters: "-a", More: "00", First: "10", Rests: []string{"a", ""}, Keep: 1},
		"one branch too many":            {Letters: strings.Repeat("a", 401), More: strings.Repeat("0", 401), First: strings.Repeat("1", 401), Rests: make([]string, 401)},
		"400 branches, each in its node": {Letters: strings.Repeat("a", 400), More: chain, First: all, Rests: []string{""}},
		"400 branches of the root":       {Letters: strings.Repeat("a", 400), More: strings.Repeat("0", 400), First: "1" + strings.Repeat("0", 399), Rests: make([]string, 400)},
		"400 branches that go on":        {Letters: strings.Repeat("a", 400), More: all, First: all},
		"only Letters":                   {Letters: "a"},
		"only Rests":                     {Rests: []string{""}},
		"only Keep, below its range":     {Keep: -1},
		"only Keep, above its range":     {Keep: 6},
	} {
		if !refused(s) {
			t.Errorf("%s: it is taken", name)
		}
	}
	keys := allKeys()[:25]
	if s := plainSieve(keys, 0); !refused(s) || refused(plainSieve(keys[:24], 0)) {
		t.Errorf("%v is taken, or not one of 24 keys", s)
	}
}

// sieveName is a text that no other filter has.
func sieveName(s impl.Sieve) string {
	return s.Letters + "," + s.More + "," + s.First + "," + strings.Join(s.Rests, ".") + "," + strconv.Itoa(len(s.Rests)) + "," + strconv.Itoa(s.Keep)
}

// smallSieves is the names of the filters of all lists of at most n keys of at most 2 letters, of which those of at most n branches are all there are.
func smallSieves(n, keep int) map[string]bool {
	short := slices.DeleteFunc(allKeys(), func(k string) bool { return len(k) > 2 })
	names := map[string]bool{}
	var add func(keys []string, from int)
	add = func(keys []string, from int) {
		names[sieveName(plainSieve(keys, keep))] = true
		for i := from; i < len(short) && len(keys) < n; i++ {
			add(append(slices.Clip(keys), short[i]), i+1)
		}
	}
	add(nil, 0)
	return names
}

// textsOf is all texts of n of some letters.
func textsOf(letters string, n int) []string {
	all := []string{""}
	for range n {
		var longer []string
		for _, text := range all {
			for _, c := range letters {
				longer = append(longer, text+string(c))
			}
		}
		all = longer
	}
	return all
}

// restsOf is all lists of n of some rests.
func restsOf(rests []string, n int) [][]string {
	all := [][]string{nil}
	for range n {
		var longer [][]string
		for _, list := range all {
			for _, rest := range rests {
				longer = append(longer, append(slices.Clip(list), rest))
			}
		}
		all = longer
	}
	return all
}

// All filters of a few branches: valid is what SieveOf makes of some keys, and nothing else.
func TestSieveOkTakesFiltersOfKeysOnly(t *testing.T) {
	for _, c := range []struct {
		most, keep int
		rests      []string
		want       int
	}{
		// No branch, 5 labels, and 10 pairs of them; of three branches, 10 triples, and 4 letters that lead to 10 pairs.
		{3, 0, []string{""}, 1 + 5 + 10 + 10 + 40},
		{2, 0, []string{"", "a"}, 1 + 5 + 10},
		// Of these rests 4 may follow a letter; of the pairs of labels 4 have a "-", and 6 do not.
		{2, 1, []string{"", "a", "b", "d", "e", "-", "aa"}, 1 + (1 + 4*4) + (4*4 + 6*4*4)},
	} {
		valid := smallSieves(c.most, c.keep)
		taken := 0
		for n := range c.most + 1 {
			for _, letters := range textsOf("-abcde", n) {
				for _, bits := range textsOf("01", 2*n) {
					for _, rests := range restsOf(c.rests, strings.Count(bits[:n], "0")) {
						s := impl.Sieve{Letters: letters, More: bits[:n], First: bits[n:], Rests: rests, Keep: c.keep}
						ok := impl.SieveOk(s)
						if ok != valid[sieveName(s)] {
							t.Fatalf("SieveOk(%v) is %v", s, ok)
						}
						if ok {
							taken++
						}
					}
				}
			}
		}
		if taken != c.want {
			t.Error(c.most, c.keep, "so many are valid:", taken)
		}
	}
}

// One changed byte: what is taken nevertheless is the filter of its kept parts.
func TestAChangedFilterIsRefusedUnlessItIsOneOfKeys(t *testing.T) {
	eachSieve(t, func(keys []string, keep int, s impl.Sieve) {
		for i := range len(s.Letters) {
			for _, c := range []string{"-", "a", "b", "c", "d", "e", "0", "1"} {
				for _, part := range []func(s *impl.Sieve) *string{
					func(s *impl.Sieve) *string { return &s.Letters },
					func(s *impl.Sieve) *string { return &s.More },
					func(s *impl.Sieve) *string { return &s.First },
				} {
					changed := copySieve(s)
					text := part(&changed)
					*text = (*text)[:i] + c + (*text)[i+1:]
					ok := impl.SieveOk(changed)
					heads := impl.SieveHeads(changed)
					if ok && (len(heads) != len(changed.Rests) || !sameSieve(changed, plainSieve(heads, keep))) {
						t.Errorf("%v is taken", changed)
					}
					if !ok && (len(heads) > 0 || impl.SieveSize(changed) != -1) {
						t.Errorf("%v is not taken, and has the kept parts %q", changed, heads)
					}
				}
			}
		}
	})
}

func TestNilAndEmptyRestsAreTheSame(t *testing.T) {
	for keep := range 6 {
		for _, rests := range [][]string{nil, {}, make([]string, 0, 4)} {
			s := impl.Sieve{Rests: rests, Keep: keep}
			if !impl.SieveOk(s) || impl.SieveSize(s) != 0 || len(impl.SieveHeads(s)) != 0 || impl.SieveHas(s, "") {
				t.Errorf("%v is not a filter of no keys", s)
			}
		}
	}
}

// roomy is a list in front of spare room, and all of both.
func roomy[T any](list []T, spare ...T) (given, room []T) {
	room = slices.Concat(list, spare)
	return room[:len(list)], room
}

// overwrite fills a list and its spare room.
func overwrite[T any](list []T, mine T) {
	list = list[:cap(list)]
	for i := range list {
		list[i] = mine
	}
}

func TestSieveFunctionsLeaveTheirListsAlone(t *testing.T) {
	for _, keys := range append(sieveLists(), notKeyLists()...) {
		for _, keep := range []int{-1, 0, 1, 5} {
			given, room := roomy(keys, "spare", "room", "b", "a")
			was := slices.Clone(room)
			s, _ := impl.SieveOf(given, keep)
			other, _ := impl.SieveOf(given, keep)
			kept := copySieve(other)
			overwrite(s.Rests, "mine")
			if !slices.Equal(room, was) || !sameSieve(other, kept) {
				t.Fatalf("SieveOf(%q, %d) changes or shares memory", begin(keys), keep)
			}
		}
	}
}

func TestSieveFunctionsLeaveTheirFilterAlone(t *testing.T) {
	eachSieve(t, func(keys []string, keep int, s impl.Sieve) {
		for _, changed := range []bool{false, true} {
			given := s
			var room []string
			given.Rests, room = roomy(s.Rests, "spare", "room", "b", "a")
			if changed && len(given.Rests) > 0 {
				given.Rests[0] += "ddddd"
			}
			was := slices.Clone(room)
			impl.SieveOk(given)
			impl.SieveHas(given, "a")
			impl.SieveMeets(given, "a", "c")
			impl.SieveSeek(given, "b")
			impl.SieveSize(given)
			one, other := impl.SieveHeads(given), impl.SieveHeads(given)
			kept := slices.Clone(other)
			overwrite(one, "mine")
			if !slices.Equal(room, was) || !slices.Equal(other, kept) {
				t.Fatalf("a function of the filter of %q with %d changes or shares memory", keys, keep)
			}
		}
	})
}
