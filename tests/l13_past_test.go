package tests

import (
	"math"
	"reflect"
	"slices"
	"sort"
	"sync"
	"testing"

	"loop.example/temse/impl"
)

// deedOf is a step as an operation.
func deedOf(a step) impl.Deed {
	kinds := map[string]int{"put": impl.DeedPut, "take": impl.DeedTake, "hold": impl.DeedHold, "free": impl.DeedFree, "down": impl.DeedDown, "join": impl.DeedJoin}
	return impl.Deed{Kind: kinds[a.name], Key: a.key, Num: a.num}
}

// stepOf is an operation as a step, if its kind is one.
func stepOf(d impl.Deed) (step, bool) {
	if d.Kind < 1 || d.Kind > 6 {
		return step{}, false
	}
	return step{[]string{"put", "take", "hold", "free", "down", "join"}[d.Kind-1], d.Key, d.Num}, true
}

// deedsOf is steps as operations.
func deedsOf(all ...step) []impl.Deed {
	var deeds []impl.Deed
	for _, a := range all {
		deeds = append(deeds, deedOf(a))
	}
	return deeds
}

// putDeeds is a put of each of some keys, with values from 0 on.
func putDeeds(keys ...string) []impl.Deed {
	var deeds []impl.Deed
	for i, k := range keys {
		deeds = append(deeds, impl.Deed{Kind: impl.DeedPut, Key: k, Num: i})
	}
	return deeds
}

// pastBy is a store after operations, and what they write, if each is performed by a function.
func pastBy(s impl.Store, deeds []impl.Deed, perform func(s impl.Store, a step) (impl.Store, bool)) (impl.Store, []impl.Entry) {
	var written []impl.Entry
	for _, d := range deeds {
		a, ok := stepOf(d)
		if !ok {
			continue
		}
		next, ok := perform(s, a)
		if !ok {
			continue
		}
		s = next
		switch a.name {
		case "put":
			written = append(written, put(d.Key, d.Num, s.Time))
		case "take":
			written = append(written, gone(d.Key, s.Time))
		}
	}
	return s, written
}

// plainPast is a store after operations, and what they write, as the document says.
func plainPast(s impl.Store, deeds []impl.Deed) (impl.Store, []impl.Entry) {
	return pastBy(s, deeds, plainDo)
}

// plainLast is the last entry of a list of a key that is not later than a time.
func plainLast(list []impl.Entry, k string, time int) (impl.Entry, bool) {
	var found []impl.Entry
	for _, e := range list {
		if e.Key == k && e.Time <= time {
			found = append(found, e)
		}
	}
	if len(found) == 0 {
		return impl.Entry{}, false
	}
	return found[len(found)-1], true
}

// plainPastList is the last such entry of each key from one to another one that is not Gone.
func plainPastList(list []impl.Entry, from, to string, time int) []impl.Entry {
	var all []impl.Entry
	for _, k := range plainKeys(list) {
		isKey := plainEntry(put(k, 0, 1))
		if e, ok := plainLast(list, k, time); ok && !e.Gone && isKey && from <= k && k <= to {
			all = append(all, e)
		}
	}
	return all
}

// notDeeds is operations that are possible on no store.
func notDeeds() []impl.Deed {
	var deeds []impl.Deed
	for _, kind := range []int{0, 7, -1, -6, 8, 100, math.MinInt, math.MaxInt} {
		deeds = append(deeds, impl.Deed{Kind: kind}, impl.Deed{Kind: kind, Key: "a", Num: 1})
	}
	for _, k := range []string{"e", "A", "a ", "abcdab", "\xff", ".a"} {
		deeds = append(deeds, deedsOf(step{"put", k, 1}, step{"take", k, 0})...)
	}
	for _, num := range []int{-1, 100, 1000, math.MinInt, math.MaxInt} {
		deeds = append(deeds, deedsOf(step{"put", "a", num}, step{"free", "", 1000 + num/2}, step{"join", "", num})...)
	}
	return append(deeds, deedsOf(step{"free", "", -1}, step{"join", "", 2}, step{"join", "", 3}, step{"join", "", -2})...)
}

// strayDeeds is operations with fields that their kind does not use, set to something.
func strayDeeds() []impl.Deed {
	return []impl.Deed{
		{Kind: impl.DeedTake, Key: "a", Num: 55}, {Kind: impl.DeedTake, Key: "ab", Num: -1}, {Kind: impl.DeedTake, Key: "b", Num: 100}, {Kind: impl.DeedHold, Key: "a", Num: 1}, {Kind: impl.DeedHold, Key: "e", Num: -7},
		{Kind: impl.DeedFree, Key: "a"}, {Kind: impl.DeedDown, Key: "a", Num: 2}, {Kind: impl.DeedDown, Key: "abcdab", Num: math.MinInt}, {Kind: impl.DeedJoin, Key: "b"}, {Kind: impl.DeedJoin, Key: "e", Num: 1},
	}
}

// mixedDeeds is n operations without a pattern, the same on each run, many of them possible on a store.
func mixedDeeds(s impl.Store, n int, letters, seed uint32) []impl.Deed {
	var deeds []impl.Deed
	for range n {
		seed = seed*1664525 + 1013904223
		d := deedOf(mixedStep(s, letters, seed))
		switch pick := int(seed >> 11 % 997); {
		case pick%11 == 0:
			d = notDeeds()[pick%len(notDeeds())]
		case pick%11 == 1:
			d = strayDeeds()[pick%len(strayDeeds())]
		}
		deeds = append(deeds, d)
		s, _ = plainPast(s, []impl.Deed{d})
	}
	return deeds
}

// pastCase is a store, operations on it, the store that they give, and what they write.
type pastCase struct {
	s       impl.Store
	deeds   []impl.Deed
	end     impl.Store
	written []impl.Entry
}

// somePasts is operations on stores of all kinds. They are made once; nobody changes them.
var somePasts = sync.OnceValue(func() []pastCase {
	var cases []pastCase
	add := func(s impl.Store, deeds []impl.Deed) {
		end, written := plainPast(s, deeds)
		cases = append(cases, pastCase{s, deeds, end, written})
	}
	for n := range 41 {
		for letters := range uint32(4) {
			s := bareStore(n%6, 0, nil, nil)
			add(s, mixedDeeds(s, n, letters+1, uint32(n)*17+letters))
		}
	}
	for i := 0; i < len(someStores()); i += 5 {
		s := someStores()[i]
		add(s, mixedDeeds(s, 40, uint32(i%4)+1, uint32(i)))
	}
	for seed := range uint32(20) {
		late := bareStore(1, int(seed)+975, nil, nil, nil, []impl.Entry{put("a", 1, 5), put("b", 2, 6)})
		add(late, mixedDeeds(late, 40, 2, seed))
		add(fullStore(2), mixedDeeds(fullStore(2), 40, 4, seed))
		add(deepStore(3), mixedDeeds(deepStore(3), 40, 3, seed))
	}
	for _, d := range append(notDeeds(), strayDeeds()...) {
		add(some(), []impl.Deed{d})
		add(some(), []impl.Deed{d, {Kind: impl.DeedPut, Key: "ab", Num: 3}, d, {Kind: impl.DeedHold}, d, {Kind: impl.DeedDown}, d})
	}
	return cases
})

// eachPast calls a function with operations on stores.
func eachPast(call func(c pastCase)) {
	for _, c := range somePasts() {
		call(c)
	}
}

// eachSplit calls a function with operations on stores, and places to split them at: all places if there are few operations.
func eachSplit(call func(c pastCase, at int)) {
	for i, c := range somePasts() {
		gap := 1 + len(c.deeds)/10
		for at := i % gap; at <= len(c.deeds); at += gap {
			call(c, at)
		}
	}
}

// eachPastStep calls a function with a store, an operation on it, and the store that it gives.
func eachPastStep(t *testing.T, call func(s impl.Store, d impl.Deed, next impl.Store)) {
	t.Helper()
	eachPast(func(c pastCase) {
		s := c.s
		for _, d := range c.deeds {
			next, ok := impl.PastDo(s, []impl.Deed{d})
			if !ok {
				t.Fatalf("PastDo(%v, %v) fails", s, d)
			}
			call(s, d, next)
			s = next
		}
	})
}

// pastDone is a store after operations, and what they write, by the program.
func pastDone(t *testing.T, s impl.Store, deeds ...impl.Deed) (impl.Store, []impl.Entry) {
	t.Helper()
	end, ok := impl.PastDo(s, deeds)
	if !ok {
		t.Fatalf("PastDo(%v, %v) fails", s, deeds)
	}
	return end, impl.PastAll(s, deeds)
}

// byTime is entries by their times, the earliest first.
func byTime(entries []impl.Entry) []impl.Entry {
	sorted := slices.Clone(entries)
	sort.SliceStable(sorted, func(i, j int) bool { return sorted[i].Time < sorted[j].Time })
	return sorted
}

func TestKindsAndLimitsOfOperations(t *testing.T) {
	kinds := []int{impl.DeedPut, impl.DeedTake, impl.DeedHold, impl.DeedFree, impl.DeedDown, impl.DeedJoin}
	if !slices.Equal(kinds, []int{1, 2, 3, 4, 5, 6}) || impl.DeedMax != 40 {
		t.Error(kinds, impl.DeedMax)
	}
}

func TestPastDoAndPastAllDoWhatTheDocumentSays(t *testing.T) {
	all, possible, entries := 0, 0, 0
	eachPast(func(c pastCase) {
		end, written := pastDone(t, c.s, c.deeds...)
		if !sameStore(end, c.end) || !slices.Equal(written, c.written) {
			t.Fatalf("%v of %v give %v and write %v, not %v and %v", c.deeds, c.s, end, written, c.end, c.written)
		}
		entries += len(written)
	})
	eachPastStep(t, func(s impl.Store, d impl.Deed, next impl.Store) {
		all++
		want, _ := pastBy(s, []impl.Deed{d}, func(s impl.Store, a step) (impl.Store, bool) {
			changed, ok := do(s, a)
			if ok {
				possible++
			}
			return changed, ok
		})
		if !sameStore(next, want) {
			t.Fatalf("%v of %v gives %v, not %v", d, s, next, want)
		}
	})
	if possible < 1000 || all < possible+1000 || entries < 1000 {
		t.Error("too few operations:", all, possible, entries)
	}
}

func TestEachKindOfOperation(t *testing.T) {
	s := bareStore(1, 9, []int{2, 5}, []impl.Entry{put("a", 1, 9)}, []impl.Entry{put("b", 3, 7)}, []impl.Entry{put("c", 4, 3)})
	for _, c := range []struct {
		d       impl.Deed
		want    impl.Store
		written []impl.Entry
	}{
		{impl.Deed{Kind: 1, Key: "ab", Num: 7}, bareStore(1, 10, s.Times, []impl.Entry{put("a", 1, 9), put("ab", 7, 10)}, s.Levels...), []impl.Entry{put("ab", 7, 10)}},
		{impl.Deed{Kind: 1}, bareStore(1, 10, s.Times, []impl.Entry{put("", 0, 10), put("a", 1, 9)}, s.Levels...), []impl.Entry{put("", 0, 10)}},
		{impl.Deed{Kind: 2, Key: "a"}, bareStore(1, 10, s.Times, []impl.Entry{gone("a", 10), put("a", 1, 9)}, s.Levels...), []impl.Entry{gone("a", 10)}},
		{impl.Deed{Kind: 2}, bareStore(1, 10, s.Times, []impl.Entry{gone("", 10), put("a", 1, 9)}, s.Levels...), []impl.Entry{gone("", 10)}},
		{impl.Deed{Kind: 3}, bareStore(1, 9, []int{2, 5, 9}, s.Top, s.Levels...), nil},
		{impl.Deed{Kind: 4, Num: 5}, bareStore(1, 9, []int{2}, s.Top, s.Levels...), nil},
		{impl.Deed{Kind: 5}, bareStore(1, 9, s.Times, nil, []impl.Entry{put("a", 1, 9), put("b", 3, 7)}, s.Levels[1]), nil},
		{impl.Deed{Kind: 6}, bareStore(1, 9, s.Times, s.Top, nil, []impl.Entry{put("b", 3, 7), put("c", 4, 3)}), nil},
		{impl.Deed{Kind: 6, Num: 1}, bareStore(1, 9, s.Times, s.Top, s.Levels[0], nil, []impl.Entry{put("c", 4, 3)}), nil},
	} {
		if end, written := pastDone(t, s, c.d); !sameStore(end, c.want) || !slices.Equal(written, c.written) {
			t.Errorf("%v gives %v and writes %v", c.d, end, written)
		}
	}
}

func TestPastOfNoOperation(t *testing.T) {
	for _, s := range slices.Concat(someStores(), laterStores()) {
		for _, none := range [][]impl.Deed{nil, {}} {
			if end, written := pastDone(t, s, none...); !sameStore(end, s) || len(written) != 0 {
				t.Fatalf("no operation of %v gives %v and writes %v", s, end, written)
			}
		}
	}
}

func TestDeedMaxIsInclusive(t *testing.T) {
	kinds := map[string]impl.Deed{
		"puts": {Kind: impl.DeedPut, Key: "a", Num: 9}, "deletions": {Kind: impl.DeedTake, Key: "a"}, "pushes": {Kind: impl.DeedDown}, "operations of no kind": {},
		"puts of no key": {Kind: impl.DeedPut, Key: "e"}, "freed times that are not held": {Kind: impl.DeedFree, Num: 3},
	}
	for what, d := range kinds {
		for _, s := range []impl.Store{bareStore(1, 0, nil, nil), some(), fullStore(3)} {
			for _, n := range []int{1, 39, 40} {
				deeds := slices.Repeat([]impl.Deed{d}, n)
				want, entries := plainPast(s, deeds)
				if end, written := pastDone(t, s, deeds...); !sameStore(end, want) || !slices.Equal(written, entries) {
					t.Errorf("%d %s give %v and write %v", n, what, end, written)
				}
			}
			for _, n := range []int{41, 42, 80, 1000} {
				deeds := slices.Repeat([]impl.Deed{d}, n)
				end, ok := impl.PastDo(s, deeds)
				if ok || !noStore(end) || len(impl.PastAll(s, deeds)) != 0 {
					t.Errorf("%d %s give %v, %v", n, what, end, ok)
				}
			}
		}
	}
	if end, written := pastDone(t, bareStore(1, 0, nil, nil), slices.Repeat([]impl.Deed{kinds["puts"]}, 40)...); end.Time != 40 || len(written) != 40 {
		t.Errorf("after 40 puts it is %d, and %d are written", end.Time, len(written))
	}
}

// anywhere calls a function with operations with another one first, last, and between each two of them, and everywhere at once.
func anywhere(deeds []impl.Deed, d impl.Deed, call func(more []impl.Deed)) {
	all := []impl.Deed{d}
	for i, other := range deeds {
		call(slices.Insert(slices.Clone(deeds), i, d))
		all = append(all, other, d)
	}
	call(append(slices.Clone(deeds), d))
	call(all)
}

func TestOperationsThatAreNotPossibleAreSkippedAnywhere(t *testing.T) {
	three := bareStore(1, 9, []int{2, 5, 7}, []impl.Entry{put("a", 1, 9)})
	full, late := fullStore(1), bareStore(1, 999, []int{4}, []impl.Entry{put("a", 1, 999)}, []impl.Entry{put("b", 1, 2)})
	for _, c := range []struct {
		what  string
		s     impl.Store
		deeds []impl.Deed
		not   []impl.Deed
	}{
		{"never possible", some(), deedsOf(step{"put", "ab", 4}, step{"hold", "", 0}, step{"take", "a", 0}, step{"down", "", 0}, step{"join", "", 0}, step{"free", "", 5}), notDeeds()},
		{"never possible, on a new store", bareStore(0, 0, nil, nil), deedsOf(step{"take", "d", 0}, step{"put", "", 0}, step{"put", "", 99}), notDeeds()},
		{"without a time", late, deedsOf(step{"down", "", 0}, step{"hold", "", 0}, step{"join", "", 0}), deedsOf(step{"put", "a", 1}, step{"put", "dd", 0}, step{"take", "a", 0}, step{"free", "", 3})},
		{"without room", full, deedsOf(step{"hold", "", 0}, step{"free", "", 0}, step{"hold", "", 0}), deedsOf(step{"put", "a", 1}, step{"take", "d", 0}, step{"down", "", 0}, step{"join", "", 0}, step{"join", "", 1})},
		{"a held time too many", three, deedsOf(step{"put", "a", 4}, step{"take", "b", 0}, step{"down", "", 0}), deedsOf(step{"hold", "", 0})},
		{"times that are not held", three, deedsOf(step{"put", "a", 4}, step{"free", "", 5}, step{"hold", "", 0}), deedsOf(step{"free", "", 0}, step{"free", "", 3}, step{"free", "", 8}, step{"free", "", 11}, step{"free", "", math.MaxInt})},
	} {
		want, entries := plainPast(c.s, c.deeds)
		for _, d := range c.not {
			anywhere(c.deeds, d, func(more []impl.Deed) {
				if end, written := pastDone(t, c.s, more...); !sameStore(end, want) || !slices.Equal(written, entries) {
					t.Errorf("%s: with %v, %v give %v and write %v", c.what, d, more, end, written)
				}
			})
		}
	}
}

// What was not possible may be possible later.
func TestAnOperationMayBePossibleLater(t *testing.T) {
	three := bareStore(1, 9, []int{2, 5, 7}, []impl.Entry{put("a", 1, 9)})
	hold := impl.Deed{Kind: impl.DeedHold}
	end, _ := pastDone(t, three, hold, impl.Deed{Kind: impl.DeedFree, Num: 5}, hold, impl.Deed{Kind: impl.DeedFree, Num: 5}, hold)
	if !slices.Equal(end.Times, []int{2, 7, 9}) {
		t.Error("held are", end.Times)
	}
	full := fullStore(1)
	full.Levels[1] = full.Levels[1][:8]
	write := impl.Deed{Kind: impl.DeedPut, Key: "a", Num: 5}
	end, written := pastDone(t, withSieves(full), impl.Deed{Kind: impl.DeedJoin, Num: 1}, impl.Deed{Kind: impl.DeedJoin}, write, write)
	if !slices.Equal(written, []impl.Entry{put("a", 5, 53), put("a", 5, 54)}) || sizes(end) != [4]int{2, 4, 16, 24} {
		t.Error("written is", written, "and there are", sizes(end))
	}
	last, written := pastDone(t, bareStore(1, 997, nil, nil), putDeeds("a", "e", "b", "c", "a")...)
	if last.Time != 999 || !slices.Equal(written, []impl.Entry{put("a", 0, 998), put("b", 2, 999)}) {
		t.Error("at the end of time, written is", written)
	}
}

func TestFieldsThatAKindDoesNotUse(t *testing.T) {
	keys, nums := []string{"", "a", "ddddd", "e", "abcdab", "\x00"}, []int{0, 1, 2, 55, -1, 100, 1000, math.MinInt, math.MaxInt}
	for _, s := range []impl.Store{some(), bareStore(1, 0, nil, nil), bareStore(2, 9, []int{1}, nil, []impl.Entry{gone("a", 9), put("a", 2, 1)}, nil, []impl.Entry{put("b", 2, 1)})} {
		for _, k := range keys {
			for _, num := range nums {
				for _, pair := range [][2]impl.Deed{
					{{Kind: impl.DeedTake, Key: k}, {Kind: impl.DeedTake, Key: k, Num: num}}, {{Kind: impl.DeedHold}, {Kind: impl.DeedHold, Key: k, Num: num}}, {{Kind: impl.DeedDown}, {Kind: impl.DeedDown, Key: k, Num: num}},
					{{Kind: impl.DeedFree, Num: num}, {Kind: impl.DeedFree, Key: k, Num: num}}, {{Kind: impl.DeedJoin, Num: num}, {Kind: impl.DeedJoin, Key: k, Num: num}},
				} {
					one, oneWritten := pastDone(t, s, pair[0])
					other, otherWritten := pastDone(t, s, pair[1])
					if !sameStore(one, other) || !slices.Equal(oneWritten, otherWritten) {
						t.Errorf("%v gives %v and writes %v, and %v gives %v and writes %v", pair[0], one, oneWritten, pair[1], other, otherWritten)
					}
				}
			}
		}
	}
}

func TestPastOfAnInvalidStore(t *testing.T) {
	for what, s := range notStores() {
		for _, deeds := range [][]impl.Deed{nil, {}, deedsOf(step{"put", "a", 1}), deedsOf(step{"hold", "", 0}, step{"take", "a", 0}), notDeeds()[:1], make([]impl.Deed, 40), make([]impl.Deed, 41)} {
			end, ok := impl.PastDo(s, deeds)
			if ok || !noStore(end) || len(impl.PastAll(s, deeds)) != 0 {
				t.Errorf("%s: %v give %v, %v and write %v", what, deeds, end, ok, impl.PastAll(s, deeds))
			}
		}
	}
}

// A store whose last level has an entry later than Time is valid, too.
func TestPastOfStoresWithALaterEntry(t *testing.T) {
	deeds := deedsOf(step{"put", "a", 4}, step{"hold", "", 0}, step{"put", "c", 7}, step{"take", "a", 0}, step{"down", "", 0}, step{"join", "", 0}, step{"join", "", 1}, step{"take", "c", 0})
	for _, s := range laterStores() {
		end, written := pastDone(t, s, deeds...)
		if want, entries := pastBy(s, deeds, do); !sameStore(end, want) || !slices.Equal(written, entries) {
			t.Errorf("%v give %v and write %v, not %v and %v", deeds, end, written, want, entries)
		}
	}
}

// Promise 64.
func TestNoOperationButDeedFreeChangesWhatIsPresentAtAHeldTime(t *testing.T) {
	compared := 0
	eachPastStep(t, func(s impl.Store, d impl.Deed, next impl.Store) {
		for _, held := range s.Times {
			if d.Kind == impl.DeedFree && d.Num == held {
				continue
			}
			if one, other := wholeList(s, held), wholeList(next, held); !slices.Contains(next.Times, held) || !slices.Equal(one, other) {
				t.Fatalf("%v of %v changes %v to %v at %d", d, s, one, other, held)
			}
			compared++
		}
	})
	eachPast(func(c pastCase) {
		deeds := slices.DeleteFunc(slices.Clone(c.deeds), func(d impl.Deed) bool { return d.Kind == impl.DeedFree })
		end, _ := pastDone(t, c.s, deeds...)
		for _, held := range c.s.Times {
			for _, k := range storeKeys(c.s) {
				one, oneOk := impl.StoreGet(c.s, k, held)
				other, otherOk := impl.StoreGet(end, k, held)
				if one != other || oneOk != otherOk {
					t.Fatalf("%v of %v change %q from %d, %v to %d, %v at %d", deeds, c.s, k, one, oneOk, other, otherOk, held)
				}
			}
		}
	})
	if compared < 1000 {
		t.Error("too few held times:", compared)
	}
}

// eachPastTime calls a function with all that was written, the store that it gave, a held time or now, and whether it is held.
func eachPastTime(t *testing.T, call func(log []impl.Entry, end impl.Store, time int)) {
	t.Helper()
	eachPast(func(c pastCase) {
		end, written := pastDone(t, c.s, c.deeds...)
		log := slices.Concat(byTime(entriesOf(c.s)), written)
		for _, time := range append(slices.Clone(end.Times), end.Time) {
			call(log, end, time)
		}
	})
	for seed := range uint32(30) {
		s, ok := impl.StoreNew(int(seed % 6))
		var log []impl.Entry
		for range 9 {
			deeds := mixedDeeds(s, 40, seed%3+1, seed+uint32(s.Time))
			log = append(log, impl.PastAll(s, deeds)...)
			if s, ok = impl.PastDo(s, deeds); !ok {
				t.Fatalf("PastDo of %v fails", deeds)
			}
			for _, time := range append(slices.Clone(s.Times), s.Time) {
				call(log, s, time)
			}
		}
	}
}

// Promise 65.
func TestWhatIsListedIsWhatWasWrittenLast(t *testing.T) {
	listed, held := 0, 0
	eachPastTime(t, func(log []impl.Entry, end impl.Store, time int) {
		keys := storeKeys(end)
		for i, from := range append(keys, "") {
			to := "ddddd"
			if i < len(keys) {
				to = keys[(i*3+time)%len(keys)]
			}
			list := impl.StoreList(end, from, to, time)
			if want := plainPastList(log, from, to, time); !slices.Equal(list, want) || !slices.Equal(list, impl.PastList(log, from, to, time)) {
				t.Fatalf("after %v, from %q to %q at %d there is %v, not %v: %v", log, from, to, time, list, want, end)
			}
			listed += len(list)
		}
		if time < end.Time {
			held++
		}
	})
	if listed < 1000 || held < 300 {
		t.Error("too little is listed:", listed, held)
	}
}

// Promise 66.
func TestAKeyHasWhatWasWrittenLast(t *testing.T) {
	found, deleted := 0, 0
	eachPastTime(t, func(log []impl.Entry, end impl.Store, time int) {
		for _, k := range append(storeKeys(end), plainKeys(log)...) {
			e, there := plainLast(log, k, time)
			val, ok := impl.StoreGet(end, k, time)
			past, pastOk := impl.PastGet(log, k, time)
			if ok != (there && !e.Gone) || val != e.Val || ok != pastOk || val != past {
				t.Fatalf("after %v, at %d %q has %d, %v, and PastGet is %d, %v: %v", log, time, k, val, ok, past, pastOk, end)
			}
			if ok {
				found++
			} else if there {
				deleted++
			}
		}
	})
	if found < 1000 || deleted < 1000 {
		t.Error("too few keys:", found, deleted)
	}
}

// Promise 67.
func TestPastDoAppliesOperationsInOrderAndCanBeSplitAnywhere(t *testing.T) {
	eachSplit(func(c pastCase, at int) {
		half, _ := impl.PastDo(c.s, c.deeds[:at])
		if end, ok := impl.PastDo(half, c.deeds[at:]); !ok || !sameStore(end, c.end) {
			t.Fatalf("%v of %v, split at %d, give %v, not %v", c.deeds, c.s, at, end, c.end)
		}
	})
	end, _ := pastDone(t, bareStore(1, 0, nil, nil), putDeeds("a", "b", "a")...)
	back, _ := pastDone(t, bareStore(1, 0, nil, nil), putDeeds("a", "a", "b")...)
	if !slices.Equal(end.Top, []impl.Entry{put("a", 2, 3), put("a", 0, 1), put("b", 1, 2)}) || !slices.Equal(back.Top, []impl.Entry{put("a", 1, 2), put("a", 0, 1), put("b", 2, 3)}) {
		t.Error("the order of puts gives", end.Top, "and", back.Top)
	}
	held, _ := pastDone(t, bareStore(1, 0, nil, nil), deedsOf(step{"put", "a", 1}, step{"hold", "", 0}, step{"put", "b", 1})...)
	after, _ := pastDone(t, bareStore(1, 0, nil, nil), deedsOf(step{"put", "a", 1}, step{"put", "b", 1}, step{"hold", "", 0})...)
	if !slices.Equal(held.Times, []int{1}) || !slices.Equal(after.Times, []int{2}) {
		t.Error("the order of a hold and a put gives", held.Times, "and", after.Times)
	}
}

// Promise 68.
func TestEachEntryOfPastAllIsOneTimeLaterAndPastAllCanBeSplitAnywhere(t *testing.T) {
	eachPast(func(c pastCase) {
		end, written := pastDone(t, c.s, c.deeds...)
		for i, e := range written {
			if e.Time != c.s.Time+1+i || !impl.RunOk([]impl.Entry{e}) {
				t.Fatalf("%v of %v write %v", c.deeds, c.s, written)
			}
		}
		if end.Time != c.s.Time+len(written) {
			t.Fatalf("after %v of %v wrote %v, it is %d", c.deeds, c.s, written, end.Time)
		}
	})
	eachSplit(func(c pastCase, at int) {
		half, one := pastDone(t, c.s, c.deeds[:at]...)
		if other := impl.PastAll(half, c.deeds[at:]); !slices.Equal(slices.Concat(one, other), c.written) {
			t.Fatalf("%v of %v, split at %d, write %v and %v, not %v", c.deeds, c.s, at, one, other, c.written)
		}
	})
}

// keeping is a store whose filters keep another number of letters.
func keeping(s impl.Store, keep int) impl.Store {
	s = copyStore(s)
	s.Keep = keep
	return withSieves(s)
}

// Promise 69.
func TestTheNumberOfKeptLettersDoesNotChangeTheContents(t *testing.T) {
	eachPast(func(c pastCase) {
		for keep := range 6 {
			end, written := pastDone(t, keeping(c.s, keep), c.deeds...)
			if end.Keep != keep || !slices.Equal(written, c.written) || !sameStore(keeping(end, c.s.Keep), c.end) {
				t.Fatalf("if %d letters are kept, %v of %v give %v and write %v", keep, c.deeds, c.s, end, written)
			}
			for _, time := range storeTimes(c.end) {
				if one, other := wholeList(c.end, time), wholeList(end, time); !slices.Equal(one, other) {
					t.Fatalf("if %d letters are kept, after %v of %v there is %v at %d, not %v", keep, c.deeds, c.s, other, time, one)
				}
			}
		}
	})
}

// pushes is lists of pushing and joining.
func pushes() [][]impl.Deed {
	down, upper, lower := impl.Deed{Kind: impl.DeedDown}, impl.Deed{Kind: impl.DeedJoin}, impl.Deed{Kind: impl.DeedJoin, Num: 1}
	all := [][]impl.Deed{slices.Repeat([]impl.Deed{down}, 40), slices.Repeat([]impl.Deed{upper}, 40), slices.Repeat([]impl.Deed{lower}, 40), slices.Repeat([]impl.Deed{down, upper, lower}, 13), slices.Repeat([]impl.Deed{lower, upper, down}, 13)}
	for n := range 27 {
		var few []impl.Deed
		for range 3 {
			few = append(few, []impl.Deed{down, upper, lower}[n%3])
			n /= 3
		}
		all = append(all, few)
	}
	return all
}

// Promise 70.
func TestPushingAndJoiningDoesNotChangeTheContents(t *testing.T) {
	moved := 0
	for i, s := range someStores() {
		for j, deeds := range pushes() {
			if (i+j)%3 > 0 {
				continue
			}
			end, written := pastDone(t, s, deeds...)
			if len(written) != 0 || end.Time != s.Time || !slices.Equal(end.Times, s.Times) || end.Keep != s.Keep || !sameAtAllTimes(s, end) {
				t.Fatalf("%v of %v have other contents: %v, and write %v", deeds, s, end, written)
			}
			if !sameStore(end, s) {
				moved++
			}
		}
	}
	if moved < 1000 {
		t.Error("too little is moved:", moved)
	}
}

// Promise 70, while something is written: if all that is written finds room, it is there however runs are moved between.
func TestPushingAndJoiningBetweenOtherOperations(t *testing.T) {
	same := 0
	eachPast(func(c pastCase) {
		if len(c.deeds) == 0 || len(c.deeds) > 13 {
			return
		}
		for _, few := range pushes()[5:] {
			var more []impl.Deed
			for i, d := range c.deeds {
				more = append(more, d, few[i%3])
				if len(more)+len(c.deeds)-i < 39 {
					more = append(more, few[(i+1)%3])
				}
			}
			end, written := pastDone(t, c.s, more...)
			if !slices.Equal(written, c.written) || !slices.Equal(end.Times, c.end.Times) {
				continue
			}
			if !sameAtAllTimes(c.end, end) {
				t.Fatalf("%v of %v give %v, not the contents of %v", more, c.s, end, c.end)
			}
			same++
		}
	})
	if same < 1000 {
		t.Error("too few are possible:", same)
	}
}

// Promise 71.
func TestOperationsThatChangeNothingCanBeOmitted(t *testing.T) {
	omitted, possible := 0, 0
	eachPast(func(c pastCase) {
		var left []impl.Deed
		s := c.s
		for _, d := range c.deeds {
			next, _ := pastDone(t, s, d)
			if sameStore(next, s) {
				omitted++
				if a, ok := stepOf(d); ok {
					if _, ok := do(s, a); ok {
						possible++
					}
				}
				continue
			}
			left = append(left, d)
			s = next
		}
		if end, written := pastDone(t, c.s, left...); !sameStore(end, c.end) || !slices.Equal(written, c.written) {
			t.Fatalf("%v of %v give %v and write %v, and without what changes nothing %v and %v", c.deeds, c.s, c.end, c.written, end, written)
		}
	})
	if omitted < 1000 || possible < 100 {
		t.Error("too few change nothing:", omitted, possible)
	}
}

func TestOperationsThatChangeNothingAnywhere(t *testing.T) {
	s := bareStore(1, 9, []int{9}, nil, []impl.Entry{put("a", 1, 9)})
	deeds := deedsOf(step{"put", "ab", 4}, step{"take", "a", 0}, step{"free", "", 9}, step{"down", "", 0})
	want, entries := plainPast(s, deeds)
	for _, d := range deedsOf(step{"join", "", 1}, step{"free", "", 10}, step{"put", "e", 1}, step{"join", "", 2}) {
		anywhere(deeds, d, func(more []impl.Deed) {
			if end, written := pastDone(t, s, more...); !sameStore(end, want) || !slices.Equal(written, entries) {
				t.Errorf("with %v, %v give %v and write %v", d, more, end, written)
			}
		})
	}
	for _, d := range deedsOf(step{"hold", "", 0}, step{"down", "", 0}) {
		if end, written := pastDone(t, s, slices.Repeat([]impl.Deed{d}, 40)...); !sameStore(end, s) || len(written) != 0 {
			t.Errorf("%v, again and again, gives %v and writes %v", d, end, written)
		}
	}
}

// pastLists is lists of entries: what was written, runs, lists that are no runs, and lists without any order.
func pastLists() [][]impl.Entry {
	lists := [][]impl.Entry{
		nil, {}, {put("a", 1, 5), put("a", 2, 5)}, {put("a", 2, 5), gone("a", 5)}, {gone("a", 5), put("a", 2, 5)}, {put("a", 1, 9), put("a", 2, 3)}, {put("a", 1, 3), put("a", 2, 9)}, {put("a", 1, 3), put("a", 2, 9), put("a", 3, 6)},
		{put("b", 1, 3), put("a", 1, 2), gone("b", 1), put("", 0, 4), gone("a", 7)}, {put("a", 1, 3), put("a", 1, 3), put("a", 1, 3)},
		{put("a", -4, -9), put("b", 100, 0), put("c", math.MinInt, math.MaxInt), put("d", math.MaxInt, math.MinInt), gone("d", -3)},
		{{Key: "a", Val: 5, Gone: true, Time: 2}, {Key: "b", Val: -5, Gone: true, Time: -2}, {Key: "b", Val: 100, Time: 1000}, {}},
		{put("e", 1, 1), put("abcdab", 2, 2), put("\xff", 3, 3), put("a", 4, 4), gone("e", 5), put("A", 6, 6), put("A", 7, 7), put("", 8, 8)},
		notEntries(), mixedRun(40, 4, 999, 7), longRun(50), slices.Repeat([]impl.Entry{put("a", 1, 1), gone("a", 2), put("b", 2, 2)}, 400),
	}
	for i, c := range somePasts() {
		if i%4 == 0 {
			lists = append(lists, c.written)
		}
	}
	for i, r := range slices.Concat(someRuns(), notRuns(), smallRuns()) {
		if i%13 > 0 {
			continue
		}
		back, mixed := slices.Clone(r), slices.Concat(r, notEntries()[i%5:i%5+4], mixedRun(8, 1, 9, uint32(i)))
		slices.Reverse(back)
		sort.SliceStable(mixed, func(i, j int) bool { return mixed[i].Time*7%11 < mixed[j].Time*7%11 })
		lists = append(lists, r, back, byTime(r), mixed)
	}
	return lists
}

// fewer is at most n of some items, spread over all of them.
func fewer[T any](items []T, n int) []T {
	var few []T
	for i := 0; i < len(items); i += len(items)/n + 1 {
		few = append(few, items[i])
	}
	return few
}

// Promise 72.
func TestPastGetIsTheLastEntryThatIsNotLater(t *testing.T) {
	found, deleted, none := 0, 0, 0
	for _, list := range pastLists() {
		times := fewer(runTimes(list), 25)
		for _, k := range runTexts(list) {
			for _, time := range times {
				e, there := plainLast(list, k, time)
				val, ok := impl.PastGet(list, k, time)
				if ok != (there && !e.Gone) || ok && val != e.Val || !ok && val != 0 {
					t.Fatalf("PastGet(%v, %q, %d) is %d, %v, not that of %v", list, k, time, val, ok, e)
				}
				switch {
				case ok:
					found++
				case there:
					deleted++
				default:
					none++
				}
			}
		}
	}
	if found < 1000 || deleted < 1000 || none < 1000 {
		t.Error("too few keys:", found, deleted, none)
	}
}

func TestPastGetAtItsEdges(t *testing.T) {
	list := []impl.Entry{put("a", 1, 5), put("b", 9, 6), put("a", 2, 8), put("a", 3, 3), gone("a", 8), put("", 4, 0), {Key: "c", Val: 7, Gone: true, Time: 1}, put("e", 150, -2)}
	for _, c := range []struct {
		k    string
		time int
		val  int
		ok   bool
	}{
		{"a", 2, 0, false}, {"a", 3, 3, true}, {"a", 5, 3, true}, {"a", 7, 3, true}, {"a", 8, 0, false}, {"a", math.MaxInt, 0, false}, {"a", -1, 0, false}, {"a", math.MinInt, 0, false},
		{"b", 5, 0, false}, {"b", 6, 9, true}, {"b", 999, 9, true}, {"b", 1000, 9, true}, {"b", math.MaxInt, 9, true}, {"", -1, 0, false}, {"", 0, 4, true}, {"c", 1, 0, false}, {"c", 9, 0, false},
		{"e", -3, 0, false}, {"e", -2, 150, true}, {"e", 5, 150, true}, {"d", 999, 0, false}, {"aa", 999, 0, false}, {"ee", 999, 0, false}, {"abcdab", 999, 0, false}, {"\xff", 999, 0, false},
	} {
		if val, ok := impl.PastGet(list, c.k, c.time); val != c.val || ok != c.ok {
			t.Errorf("at %d, %q has %d, %v", c.time, c.k, val, ok)
		}
	}
}

// Promise 73.
func TestPastListIsPastGetOfEachKeyInTheRange(t *testing.T) {
	listed := 0
	for i, list := range pastLists() {
		keys, times, texts := plainSorted(plainKeys(list)), fewer(runTimes(list), 6), fewer(runTexts(list), 9)
		for j, from := range texts {
			to, time := texts[(j*j+i)%len(texts)], times[(i+j)%len(times)]
			got, want := impl.PastList(list, from, to, time), []int(nil)
			var there []string
			for _, k := range keys {
				if val, ok := impl.PastGet(list, k, time); ok && from <= k && k <= to {
					there, want = append(there, k), append(want, val)
				}
			}
			for n, e := range got {
				if len(got) != len(want) || e.Key != there[n] || e.Val != want[n] || e.Gone || e.Time > time {
					t.Fatalf("PastList(%v, %q, %q, %d) is %v, not %v of %q", list, from, to, time, got, want, there)
				}
			}
			if len(got) < len(want) {
				t.Fatalf("PastList(%v, %q, %q, %d) is %v, not %v of %q", list, from, to, time, got, want, there)
			}
			listed += len(got)
		}
		for _, time := range times {
			if got, want := impl.PastList(list, "", "ddddd", time), plainPastList(list, "", "ddddd", time); !slices.Equal(got, want) {
				t.Fatalf("at %d, PastList of %v is %v, not %v", time, list, got, want)
			}
		}
	}
	if listed < 1000 {
		t.Error("too little is listed:", listed)
	}
}

func TestPastListAtItsEdges(t *testing.T) {
	list := []impl.Entry{put("b", 9, 6), put("a", 1, 5), put("a", 2, 8), put("ab", 5, 7), put("a", 3, 3), gone("ab", 9), put("", 4, 1), gone("ddddd", 2), put("ddddd", 6, 4), put("c", 200, -1)}
	a, b, c, ab, empty, last := list[4], list[0], list[9], list[3], list[6], list[8]
	for _, one := range []struct {
		from, to string
		time     int
		want     []impl.Entry
	}{
		{"", "ddddd", 999, []impl.Entry{empty, a, b, c, last}}, {"", "ddddd", 8, []impl.Entry{empty, a, ab, b, c, last}}, {"", "ddddd", 3, []impl.Entry{empty, a, c}}, {"", "ddddd", 0, []impl.Entry{c}}, {"", "ddddd", -1, []impl.Entry{c}},
		{"", "ddddd", -2, nil}, {"", "ddddd", math.MinInt, nil}, {"", "ddddd", math.MaxInt, []impl.Entry{empty, a, b, c, last}}, {"", "", 8, []impl.Entry{empty}}, {"", "", 0, nil},
		{"a", "a", 8, []impl.Entry{a}}, {"ab", "ab", 8, []impl.Entry{ab}}, {"ab", "ab", 9, nil}, {"aa", "b", 8, []impl.Entry{ab, b}}, {"ac", "ad", 8, nil}, {"b", "a", 8, nil}, {"ddddd", "", 8, nil},
		{"ddddd", "ddddd", 3, nil}, {"ddddd", "ddddd", 4, []impl.Entry{last}}, {"", "\xff", 8, []impl.Entry{empty, a, ab, b, c, last}}, {"A", "e", 8, []impl.Entry{a, ab, b, c, last}}, {"aaaaaaa", "bb", 8, []impl.Entry{ab, b}},
		{"\x00", "a\x00", 8, []impl.Entry{a}}, {"e", "zzz", 8, nil}, {"\xff", "", 8, nil}, {"a-", "a~", 8, []impl.Entry{ab}},
	} {
		if got := impl.PastList(list, one.from, one.to, one.time); !slices.Equal(got, one.want) {
			t.Errorf("from %q to %q at %d there is %v", one.from, one.to, one.time, got)
		}
	}
}

// The document lists keys, and a string that is no key is none; PastGet takes any string.
func TestPastListListsKeysOnly(t *testing.T) {
	for _, k := range notKeys() {
		list := []impl.Entry{put(k, 3, 5), put("a", 4, 6), put(k, 5, 4)}
		if val, ok := impl.PastGet(list, k, 5); !ok || val != 5 {
			t.Errorf("PastGet of %q is %d, %v", k, val, ok)
		}
		for _, ends := range [][2]string{{"", "\xff\xff"}, {k, k}, {"", k}, {k, "\xff\xff"}} {
			if got := impl.PastList(list, ends[0], ends[1], 9); !slices.Equal(got, plainPastList(list, ends[0], ends[1], 9)) {
				t.Errorf("from %q to %q there is %v", ends[0], ends[1], got)
			}
		}
	}
}

// Promise 74.
func TestAKeyThatWasDeletedLastIsAbsentAndOneThatWasWrittenLastIsPresent(t *testing.T) {
	present, absent := 0, 0
	eachPast(func(c pastCase) {
		end, written := pastDone(t, c.s, c.deeds...)
		last := map[string]impl.Entry{}
		for _, e := range written {
			last[e.Key] = e
		}
		for k, e := range last {
			val, ok := impl.StoreGet(end, k, end.Time)
			past, pastOk := impl.PastGet(written, k, end.Time)
			if ok == e.Gone || pastOk == e.Gone || val != e.Val || past != e.Val {
				t.Fatalf("after %v of %v, %q has %d, %v, and PastGet is %d, %v", c.deeds, c.s, k, val, ok, past, pastOk)
			}
			listed := slices.Contains(wholeList(end, end.Time), e)
			if listed == e.Gone || slices.Contains(impl.PastList(written, k, k, end.Time), e) == e.Gone {
				t.Fatalf("after %v of %v, %v is listed or not: %v", c.deeds, c.s, e, listed)
			}
			if ok {
				present++
			} else {
				absent++
			}
		}
	})
	if present < 300 || absent < 300 {
		t.Error("too few keys:", present, absent)
	}
}

func TestWrittenAndDeletedAgainAndAgain(t *testing.T) {
	write, take := impl.Deed{Kind: impl.DeedPut, Key: "ab", Num: 7}, impl.Deed{Kind: impl.DeedTake, Key: "ab", Num: 7}
	for _, between := range pushes() {
		for n := 1; n <= 40; n++ {
			var deeds []impl.Deed
			for i := range n {
				deeds = append(deeds, []impl.Deed{write, between[i%len(between)], take, between[(i+1)%len(between)]}[i%4])
			}
			end, written := pastDone(t, bareStore(1, 0, nil, nil), deeds...)
			val, ok := impl.StoreGet(end, "ab", end.Time)
			if there := (n-1)%4 < 2; ok != there || there != (val == 7) || there != !written[len(written)-1].Gone {
				t.Fatalf("after %v, ab has %d, %v: %v", deeds, val, ok, end)
			}
		}
	}
}

func TestPastFunctionsLeaveTheirArgumentsAlone(t *testing.T) {
	eachPast(func(c pastCase) {
		given, was := roomyStore(c.s), roomOf(roomyStore(c.s))
		deeds, deedsRoom := roomy(c.deeds, impl.Deed{Kind: impl.DeedTake, Key: "spare"}, impl.Deed{Kind: impl.DeedPut, Key: "a", Num: 1})
		deedsWas := slices.Clone(deedsRoom)
		end, written := pastDone(t, given, deeds...)
		again, writtenAgain := pastDone(t, given, deeds...)
		overwriteStore(end)
		overwrite(written, mine)
		if !sameStore(again, c.end) || !slices.Equal(writtenAgain, c.written) {
			t.Fatalf("two results of %v of %v share memory, or depend on spare room", c.deeds, c.s)
		}
		if !reflect.DeepEqual(roomOf(given), was) || !slices.Equal(deedsRoom, deedsWas) {
			t.Fatalf("%v of %v change or share memory", c.deeds, c.s)
		}
		if !listsApart(again) {
			t.Fatalf("two lists of the result of %v of %v share memory", c.deeds, c.s)
		}
	})
	for what, s := range notStores() {
		given, was := roomyStore(s), roomOf(roomyStore(s))
		impl.PastDo(given, deedsOf(step{"put", "a", 1}, step{"down", "", 0}))
		impl.PastAll(given, deedsOf(step{"put", "a", 1}, step{"down", "", 0}))
		if !reflect.DeepEqual(roomOf(given), was) {
			t.Fatalf("%s: the store is changed", what)
		}
	}
}

func TestPastListsLeaveTheirListsAlone(t *testing.T) {
	for _, list := range pastLists() {
		given, room := roomy(list, put("spare", 1, 1), gone("a", -5), put("b", 1, 1))
		was := slices.Clone(room)
		for _, time := range fewer(runTimes(list), 4) {
			impl.PastGet(given, "a", time)
			got, again := impl.PastList(given, "", "ddddd", time), impl.PastList(given, "", "ddddd", time)
			overwrite(got, mine)
			if !slices.Equal(room, was) || !slices.Equal(again, plainPastList(list, "", "ddddd", time)) {
				t.Fatalf("PastList of %v at %d changes or shares memory, or depends on spare room", list, time)
			}
		}
	}
}
