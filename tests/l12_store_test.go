package tests

import (
	"math"
	"reflect"
	"slices"
	"strings"
	"sync"
	"testing"

	"loop.example/temse/impl"
)

// bareStore is a store written out, with the filters of its levels; levels that are left out are empty.
func bareStore(keep, time int, times []int, top []impl.Entry, levels ...[]impl.Entry) impl.Store {
	s := impl.Store{Top: top, Keep: keep, Time: time, Times: times}
	for n := range 3 {
		var run []impl.Entry
		if n < len(levels) {
			run = levels[n]
		}
		s.Levels = append(s.Levels, run)
	}
	return withSieves(s)
}

// withSieves is a store with the filters that its levels need.
func withSieves(s impl.Store) impl.Store {
	s.Sieves = nil
	for _, run := range s.Levels {
		s.Sieves = append(s.Sieves, plainSieve(plainKeys(run), s.Keep))
	}
	return s
}

// runsOf is Top and the levels, from the top to the bottom.
func runsOf(s impl.Store) [][]impl.Entry {
	return append([][]impl.Entry{s.Top}, s.Levels...)
}

// entriesOf is all entries of a store.
func entriesOf(s impl.Store) []impl.Entry {
	return slices.Concat(runsOf(s)...)
}

// copyStore is a store in memory of its own.
func copyStore(s impl.Store) impl.Store {
	s.Top, s.Levels, s.Sieves, s.Times = slices.Clone(s.Top), slices.Clone(s.Levels), slices.Clone(s.Sieves), slices.Clone(s.Times)
	for n, run := range s.Levels {
		s.Levels[n] = slices.Clone(run)
	}
	for n, f := range s.Sieves {
		s.Sieves[n].Rests = slices.Clone(f.Rests)
	}
	return s
}

// sameStore says whether two stores are the same.
func sameStore(a, b impl.Store) bool {
	return slices.Equal(a.Top, b.Top) && slices.EqualFunc(a.Levels, b.Levels, slices.Equal) &&
		slices.EqualFunc(a.Sieves, b.Sieves, sameSieve) && a.Keep == b.Keep && a.Time == b.Time && slices.Equal(a.Times, b.Times)
}

// noStore says whether a store is the zero value.
func noStore(s impl.Store) bool {
	return sameStore(s, impl.Store{})
}

// plainHeld says whether held times are few, ascending, and from 0 to a time.
func plainHeld(times []int, time int) bool {
	for i, held := range times {
		if held < 0 || held > time || slices.ContainsFunc(times[i+1:], func(next int) bool { return next <= held }) {
			return false
		}
	}
	return len(times) <= 3
}

// plainLayers says whether runs are short enough, none but the last has an entry later than a time, and each entry is newer than those of its key below.
func plainLayers(runs [][]impl.Entry, time int) bool {
	for i, run := range runs {
		if !plainRun(run) || len(run) > []int{4, 8, 16, 24}[i] {
			return false
		}
		for _, e := range run {
			if i < 3 && e.Time > time {
				return false
			}
			for _, below := range slices.Concat(runs[i+1:]...) {
				if below.Key == e.Key && below.Time >= e.Time {
					return false
				}
			}
		}
	}
	return true
}

// plainStore says whether a store is valid, sentence by sentence.
func plainStore(s impl.Store) bool {
	if len(s.Levels) != 3 || len(s.Sieves) != 3 || s.Keep < 0 || s.Keep > 5 || s.Time < 0 || s.Time > 999 {
		return false
	}
	return plainHeld(s.Times, s.Time) && plainLayers(runsOf(s), s.Time) && slices.EqualFunc(s.Sieves, withSieves(s).Sieves, sameSieve)
}

// step is an operation on a store: its name, and the key and the number that it takes.
type step struct {
	name, key string
	num       int
}

// do performs a step.
func do(s impl.Store, a step) (impl.Store, bool) {
	switch a.name {
	case "put":
		return impl.StorePut(s, a.key, a.num)
	case "take":
		return impl.StoreTake(s, a.key)
	case "hold":
		held, _, ok := impl.StoreHold(s)
		return held, ok
	case "free":
		return impl.StoreFree(s, a.num)
	case "down":
		return impl.StoreDown(s)
	}
	return impl.StoreJoin(s, a.num)
}

// plainPush pushes a run into a level of a store, in place, with the filters left as they were.
func plainPush(s *impl.Store, run []impl.Entry, n int) bool {
	joined, ok := plainJoin(run, s.Levels[n])
	left := plainTrim(joined, s.Times, n == 2)
	if ok && len(left) <= 8*(n+1) && len(plainKeys(left)) <= 24 {
		s.Levels[n] = left
		return true
	}
	if n == 2 || !plainPush(s, s.Levels[n], n+1) {
		return false
	}
	s.Levels[n] = plainTrim(run, s.Times, false)
	return true
}

// plainWrite writes an entry with the next time, in place.
func plainWrite(s *impl.Store, e impl.Entry) bool {
	s.Time++
	e.Time = s.Time
	if !plainEntry(e) {
		return false
	}
	if len(s.Top) == 4 {
		if !plainPush(s, s.Top, 0) {
			return false
		}
		s.Top = nil
	}
	s.Top = inOrder(append(s.Top, e))
	return true
}

// plainStep performs a step in place, with the filters left as they were.
func plainStep(s *impl.Store, a step) bool {
	switch a.name {
	case "put":
		return plainWrite(s, put(a.key, a.num, 0))
	case "take":
		return plainWrite(s, gone(a.key, 0))
	case "hold":
		if !slices.Contains(s.Times, s.Time) {
			s.Times = append(s.Times, s.Time)
		}
		return len(s.Times) <= 3
	case "free":
		at := slices.Index(s.Times, a.num)
		if at >= 0 {
			s.Times = slices.Delete(s.Times, at, at+1)
		}
		return at >= 0
	case "down":
		ok := plainPush(s, s.Top, 0)
		s.Top = nil
		return ok
	}
	if a.num != 0 && a.num != 1 {
		return false
	}
	ok := plainPush(s, s.Levels[a.num], a.num+1)
	s.Levels[a.num] = nil
	return ok
}

// plainDo is a valid store after a step, as the document says.
func plainDo(s impl.Store, a step) (impl.Store, bool) {
	next := copyStore(s)
	if !plainStep(&next, a) {
		return impl.Store{}, false
	}
	return withSieves(next), true
}

// mixedStep is a step without a pattern, the same on each run, that a store may be able to do.
func mixedStep(s impl.Store, letters, seed uint32) step {
	key, num := mixedKeys(1, letters, seed)[0], int(seed>>9%100)
	switch n := seed >> 20 % 100; {
	case n < 55:
		return step{"put", key, num}
	case n < 72:
		return step{"take", key, 0}
	case n < 79:
		return step{"hold", "", 0}
	case n < 86 && len(s.Times) > 0:
		return step{"free", "", s.Times[num%len(s.Times)]}
	case n < 92:
		return step{"down", "", 0}
	}
	return step{"join", "", num % 2}
}

// history is the stores that n steps give, from a store on; a step that is not possible is left out.
func history(s impl.Store, n int, letters, seed uint32) []impl.Store {
	var stores []impl.Store
	for range n {
		seed = seed*1664525 + 1013904223
		if next, ok := plainDo(s, mixedStep(s, letters, seed)); ok {
			s = next
			stores = append(stores, s)
		}
	}
	return stores
}

// puts is an entry of each of some keys, with times from one on, and values from 0 on.
func puts(keys []string, time int) []impl.Entry {
	var r []impl.Entry
	for i, k := range keys {
		r = append(r, put(k, i, time+i))
	}
	return r
}

// spreadKeys is n keys, far apart.
func spreadKeys(n, from int) []string {
	var keys []string
	for i := range n {
		keys = append(keys, allKeys()[i*25+from])
	}
	return keys
}

// fullStore is a store without any room, of keys that are all different.
func fullStore(keep int) impl.Store {
	return bareStore(keep, 52, []int{0, 24, 52}, puts(spreadKeys(4, 3), 49), puts(spreadKeys(8, 9), 41), puts(spreadKeys(16, 15), 25), puts(spreadKeys(24, 21), 1))
}

// deepStore is a store of one key, whose runs are as long as can be.
func deepStore(keep int) impl.Store {
	r := deepRun("cab", 52)
	// A deep run goes down by three from 900 on.
	return bareStore(keep, 901, []int{700, 899, 901}, r[:4], r[4:12], r[12:28], r[28:])
}

// shapedStores is stores with what the document names: deletions on each level, alone, above a value and below one; times at their limits.
func shapedStores() []impl.Store {
	var stores []impl.Store
	for keep := range 6 {
		stores = append(stores, bareStore(keep, 0, nil, nil), bareStore(keep, 0, []int{0}, nil), bareStore(keep, 9, []int{0, 5, 9}, nil), fullStore(keep), deepStore(keep))
	}
	for _, times := range [][]int{nil, {4}, {2, 6}, {3, 5, 8}} {
		for at := range 4 {
			for _, cell := range [][]impl.Entry{{gone("ab", 5)}, {put("ab", 9, 5)}, {gone("ab", 5), put("ab", 9, 4)}, {put("ab", 9, 5), gone("ab", 4)}, {gone("ab", 5), gone("ab", 4)}} {
				runs := make([][]impl.Entry, 4)
				runs[at] = cell
				stores = append(stores, bareStore(at, 8, times, runs[0], runs[1:]...))
				for low := at + 1; low < 4; low++ {
					two := slices.Clone(runs)
					two[low] = []impl.Entry{put("a", 1, 2), put("ab", 2, 3), gone("ab", 1)}
					three := slices.Clone(two)
					three[low] = []impl.Entry{gone("ab", 3), put("ab", 2, 2), gone("abc", 7)}
					stores = append(stores, bareStore(low, 8, times, two[0], two[1:]...), bareStore(low, 8, times, three[0], three[1:]...))
				}
			}
		}
	}
	last := bareStore(1, 999, []int{0, 998}, []impl.Entry{put("a", 1, 999)}, []impl.Entry{put("a", 2, 998)}, nil, []impl.Entry{put("a", 3, 1), gone("b", 2)})
	ahead := bareStore(2, 998, []int{998}, puts([]string{"a", "b", "c", "d"}, 995), nil, nil, []impl.Entry{put("a", 3, 1)})
	return append(stores, last, ahead)
}

// someStores is valid stores of all kinds. They are made once; who changes one copies it first.
var someStores = sync.OnceValue(func() []impl.Store {
	stores := shapedStores()
	for seed := range uint32(36) {
		past := history(bareStore(int(seed%6), 0, nil, nil), 150, seed%4+1, seed*99+7)
		for i := int(seed % 9); i < len(past); i += 23 {
			stores = append(stores, past[i])
		}
	}
	for _, start := range []impl.Store{fullStore(1), deepStore(3)} {
		stores = append(stores, history(start, 12, 2, 5)...)
	}
	return stores
})

// laterStores is valid stores whose last level has an entry later than Time; no operation gives one.
func laterStores() []impl.Store {
	return []impl.Store{
		bareStore(1, 0, nil, nil, nil, nil, []impl.Entry{put("a", 1, 1)}),
		bareStore(1, 5, nil, nil, nil, nil, []impl.Entry{put("a", 1, 999), put("b", 1, 6)}),
		bareStore(5, 5, []int{3}, []impl.Entry{put("b", 1, 5)}, nil, nil, []impl.Entry{gone("a", 9), put("a", 1, 4), put("b", 2, 1)}),
		bareStore(0, 5, []int{5}, nil, []impl.Entry{gone("b", 4)}, nil, []impl.Entry{put("a", 1, 9), put("a", 2, 4)}),
	}
}

// steps is steps for a store, possible or not.
func steps(s impl.Store) []step {
	all := []step{{"hold", "", 0}, {"down", "", 0}, {"join", "", 0}, {"join", "", 1}, {"free", "", -1}, {"free", "", s.Time}, {"free", "", s.Time + 1}}
	for _, n := range []int{-1, 2, 3, math.MinInt, math.MaxInt} {
		all = append(all, step{"join", "", n})
	}
	for _, held := range s.Times {
		all = append(all, step{"free", "", held}, step{"free", "", held - 1})
	}
	for i, k := range storeKeys(s) {
		all = append(all, step{"put", k, i * 7 % 100}, step{"take", k, 0})
	}
	for _, val := range []int{0, 99, -1, 100, math.MinInt, math.MaxInt} {
		all = append(all, step{"put", "ab", val})
	}
	return append(all, step{"put", "e", 1}, step{"put", "aaaaaa", 1}, step{"put", "A", 1}, step{"take", "e", 0}, step{"take", "abcdab", 0})
}

// storeKeys is keys to ask a store for: some of its own, their neighbours, and others.
func storeKeys(s impl.Store) []string {
	keys := []string{"", "a", "ab", "ddddd"}
	own := plainKeys(entriesOf(s))
	for i := 0; i < len(own); i += len(own)/4 + 1 {
		keys = append(keys, own[i], own[i]+"a", own[i][:len(own[i])/2])
	}
	return impl.KeysSort(keys)
}

// storeTimes is the times at which a store can be read.
func storeTimes(s impl.Store) []int {
	return append(slices.Clone(s.Times), s.Time)
}

// wholeList is all that a store has at a time.
func wholeList(s impl.Store, time int) []impl.Entry {
	return impl.StoreList(s, "", "ddddd", time)
}

// without is a list without a key.
func without(list []impl.Entry, k string) []impl.Entry {
	return slices.DeleteFunc(slices.Clone(list), func(e impl.Entry) bool { return e.Key == k })
}

// values is the keys and values of a list, without times.
func values(list []impl.Entry) []impl.Entry {
	list = slices.Clone(list)
	for i := range list {
		list[i].Time = 0
	}
	return list
}

// eachDone calls a function with stores, a step that is possible, and the store that it gives.
func eachDone(t *testing.T, names string, call func(s impl.Store, a step, next impl.Store)) {
	t.Helper()
	done := 0
	for _, s := range someStores() {
		for _, a := range steps(s) {
			if !strings.Contains(names, a.name) {
				continue
			}
			if next, ok := do(s, a); ok {
				call(s, a, next)
				done++
			}
		}
	}
	if done < 200 {
		t.Error("too few steps are possible:", done)
	}
}

// eachRange calls a function with stores, ranges of keys, and times at which the store can be read.
func eachRange(call func(s impl.Store, from, to string, time int)) {
	for i, s := range someStores() {
		keys, times := storeKeys(s), storeTimes(s)
		for j, from := range keys {
			for n := range 3 {
				call(s, from, keys[(j+n*n*2)%len(keys)], times[(i+j+n)%len(times)])
			}
		}
		for _, time := range times {
			call(s, "", "ddddd", time)
		}
	}
}

// eachKey calls a function with stores, keys, and times at which the store can be read.
func eachKey(call func(s impl.Store, k string, time int)) {
	for _, s := range someStores() {
		for _, k := range storeKeys(s) {
			for _, time := range storeTimes(s) {
				call(s, k, time)
			}
		}
	}
}

func TestLimitsOfStores(t *testing.T) {
	if impl.StoreLevels != 3 || impl.StoreTop != 4 || impl.StoreTimes != 3 {
		t.Error(impl.StoreLevels, impl.StoreTop, impl.StoreTimes)
	}
}

// Promise 41.
func TestStoreNewIsValidAndEmpty(t *testing.T) {
	for keep := range 6 {
		s, ok := impl.StoreNew(keep)
		if !ok || !impl.StoreOk(s) || !sameStore(s, bareStore(keep, 0, nil, nil)) {
			t.Errorf("StoreNew(%d) is %v, %v", keep, s, ok)
		}
		if list := wholeList(s, 0); len(list) != 0 || impl.StoreSpans(s, "", "ddddd") != 0 {
			t.Errorf("StoreNew(%d) has %v", keep, list)
		}
		for _, k := range []string{"", "a", "ddddd"} {
			if val, ok := impl.StoreGet(s, k, 0); ok || val != 0 || impl.StoreLooks(s, k) != 0 {
				t.Errorf("StoreNew(%d) has %q", keep, k)
			}
		}
	}
	for _, keep := range []int{-1, 6, -6, math.MinInt, math.MaxInt} {
		if s, ok := impl.StoreNew(keep); ok || !noStore(s) {
			t.Errorf("StoreNew(%d) is %v, %v", keep, s, ok)
		}
	}
}

// notStores is stores that are not valid, by what is wrong with them.
func notStores() map[string]impl.Store {
	some := bareStore(1, 9, []int{2, 5}, []impl.Entry{put("a", 1, 9), put("b", 2, 8)}, []impl.Entry{put("a", 3, 7), gone("c", 6)}, []impl.Entry{put("ab", 4, 5)}, []impl.Entry{put("a", 5, 1), put("d", 6, 2)})
	bad := map[string]impl.Store{"the zero value": {}}
	change := func(what string, how func(s *impl.Store)) {
		s := copyStore(some)
		how(&s)
		bad[what] = s
	}
	badCounts(change)
	badSieves(change)
	badTimes(change)
	badRuns(change)
	return bad
}

// badCounts makes stores of too few or too many levels or filters.
func badCounts(change func(what string, how func(s *impl.Store))) {
	change("no levels", func(s *impl.Store) { s.Levels = nil })
	change("no filters", func(s *impl.Store) { s.Sieves = nil })
	change("neither levels nor filters", func(s *impl.Store) { s.Levels, s.Sieves = nil, nil })
	change("two levels", func(s *impl.Store) { s.Levels = s.Levels[:2] })
	change("two filters", func(s *impl.Store) { s.Sieves = s.Sieves[:2] })
	change("two levels and filters", func(s *impl.Store) { s.Levels, s.Sieves = s.Levels[:2], s.Sieves[:2] })
	change("four levels", func(s *impl.Store) { s.Levels = append(s.Levels, nil) })
	change("four filters", func(s *impl.Store) { s.Sieves = append(s.Sieves, impl.Sieve{Keep: 1}) })
	change("four levels and filters", func(s *impl.Store) {
		s.Levels, s.Sieves = append(s.Levels, nil), append(s.Sieves, impl.Sieve{Keep: 1})
	})
}

// badSieves makes stores whose filters are not those of their levels.
func badSieves(change func(what string, how func(s *impl.Store))) {
	for n, name := range []string{"level 0", "level 1", "level 2"} {
		change("the filter of another level at "+name, func(s *impl.Store) { s.Sieves[n] = s.Sieves[(n+1)%3] })
		change("a filter of no keys at "+name, func(s *impl.Store) { s.Sieves[n] = plainSieve(nil, 1) })
		change("a filter of another key at "+name, func(s *impl.Store) { s.Sieves[n] = plainSieve([]string{"bcd"}, 1) })
		change("a filter of one key more at "+name, func(s *impl.Store) {
			s.Sieves[n] = plainSieve(plainSorted(append(plainKeys(s.Levels[n]), "dcba")), 1)
		})
		change("a filter that keeps other letters at "+name, func(s *impl.Store) { s.Sieves[n] = plainSieve(plainKeys(s.Levels[n]), 2) })
		change("a filter whose Keep is another one at "+name, func(s *impl.Store) { s.Sieves[n].Keep = 0 })
		change("a filter that is not valid at "+name, func(s *impl.Store) { s.Sieves[n].Rests[0] = "dddd" })
		change("a filter with a rest more at "+name, func(s *impl.Store) { s.Sieves[n].Rests = append(s.Sieves[n].Rests, "") })
		change("a filter at an empty "+name, func(s *impl.Store) { s.Levels[n] = nil })
	}
	change("two filters that are swapped", func(s *impl.Store) { s.Sieves[0], s.Sieves[1] = s.Sieves[1], s.Sieves[0] })
	for name, keep := range map[string]int{"-1": -1, "6": 6, "the least number": math.MinInt, "the greatest number": math.MaxInt} {
		change("Keep is "+name, func(s *impl.Store) { s.Keep = keep })
		change("Keep is, also in the filters, "+name, func(s *impl.Store) {
			s.Keep = keep
			for n := range s.Sieves {
				s.Sieves[n].Keep = keep
			}
		})
	}
	change("Keep is 2", func(s *impl.Store) { s.Keep = 2 })
}

// badTimes makes stores whose times are out of range or order.
func badTimes(change func(what string, how func(s *impl.Store))) {
	for name, times := range map[string][]int{
		"descending": {5, 2}, "the same twice": {5, 5}, "the same twice at the end": {2, 5, 5}, "out of order": {2, 7, 5}, "four": {2, 3, 4, 5}, "four with 0": {0, 1, 2, 3},
		"below 0": {-1}, "below 0, and others": {-1, 2, 5}, "far below 0": {math.MinInt, 5}, "later than Time": {10}, "later than Time, and others": {2, 5, 10}, "far later": {math.MaxInt},
	} {
		change("Times are "+name, func(s *impl.Store) { s.Times = times })
	}
	for name, time := range map[string]int{"-1": -1, "1000": 1000, "the least number": math.MinInt, "the greatest number": math.MaxInt} {
		change("Time is "+name, func(s *impl.Store) { s.Time = time })
		change("without any entries, Time is "+name, func(s *impl.Store) { *s = bareStore(1, time, nil, nil) })
	}
	change("Time is earlier than Top", func(s *impl.Store) { s.Time = 8 })
	for at, name := range []string{"Top", "level 0", "level 1"} {
		change("an entry later than Time alone in "+name, func(s *impl.Store) {
			runs := make([][]impl.Entry, 4)
			runs[at] = []impl.Entry{put("a", 1, 10)}
			*s = bareStore(1, 9, nil, runs[0], runs[1:]...)
		})
		change("a deletion later than Time behind others in "+name, func(s *impl.Store) {
			runs := runsOf(*s)
			runs[at] = append(runs[at], gone("dddd", 10))
			*s = bareStore(1, 9, nil, runs[0], runs[1:]...)
		})
	}
}

// badRuns makes stores whose runs are none, too long, or not newer than those below.
func badRuns(change func(what string, how func(s *impl.Store))) {
	names := []string{"Top", "level 0", "level 1", "level 2"}
	wrong := func(what string, at int, run []impl.Entry) {
		change(names[at]+" has "+what, func(s *impl.Store) {
			runs := make([][]impl.Entry, 4)
			runs[at] = run
			*s = bareStore(1, 999, nil, runs[0], runs[1:]...)
		})
	}
	for at := range 4 {
		wrong("keys out of order", at, []impl.Entry{put("b", 1, 1), put("a", 1, 2)})
		wrong("times out of order", at, []impl.Entry{put("a", 1, 1), put("a", 1, 2)})
		wrong("one time twice", at, []impl.Entry{put("a", 1, 1), put("a", 1, 1)})
		wrong("no key", at, []impl.Entry{put("e", 1, 1)})
		wrong("a value that is too great", at, []impl.Entry{put("a", 100, 1)})
		wrong("a time 0", at, []impl.Entry{put("a", 1, 0)})
		wrong("a deletion with a value", at, []impl.Entry{{Key: "a", Val: 1, Gone: true, Time: 1}})
		wrong("one entry too many", at, longRun([]int{5, 9, 17, 25}[at]))
		wrong("one entry of a key too many", at, deepRun("a", []int{5, 9, 17, 25}[at]))
		wrong("more entries than a run", at, longRun(41))
		for low := at + 1; low < 4; low++ {
			for name, below := range map[string]impl.Entry{"of the same time": put("a", 2, 5), "that is newer": put("a", 2, 6), "that is Gone and newer": gone("a", 6)} {
				change(names[low]+" has an entry "+name+" than in "+names[at], func(s *impl.Store) {
					runs := make([][]impl.Entry, 4)
					runs[at], runs[low] = []impl.Entry{put("", 1, 9), put("a", 1, 8), gone("a", 5)}, []impl.Entry{below, put("b", 1, 9)}
					*s = bareStore(1, 9, nil, runs[0], runs[1:]...)
				})
			}
		}
	}
}

func TestStoreOkTakesStoresOnly(t *testing.T) {
	for _, s := range append(laterStores(), someStores()...) {
		if !impl.StoreOk(s) || !plainStore(s) {
			t.Errorf("StoreOk(%v) is %v", s, impl.StoreOk(s))
		}
	}
	for what, s := range notStores() {
		if impl.StoreOk(s) || plainStore(s) {
			t.Errorf("%s: StoreOk(%v) is %v", what, s, impl.StoreOk(s))
		}
	}
}

func TestStoreOkOfOneKeyOnEachLevel(t *testing.T) {
	valid := 0
	for n := range 5 * 5 * 5 * 5 {
		runs := make([][]impl.Entry, 4)
		for at, rest := 0, n; at < 4; at, rest = at+1, rest/5 {
			if time := rest % 5; time > 0 {
				runs[at] = []impl.Entry{put("ab", 1, time)}
			}
		}
		for time := range 6 {
			s := bareStore(1, time, nil, runs[0], runs[1:]...)
			if ok := impl.StoreOk(s); ok != plainStore(s) {
				t.Errorf("StoreOk(%v) is %v", s, ok)
			}
			if impl.StoreOk(s) {
				valid++
			}
		}
	}
	if valid < 100 {
		t.Error("too few are valid:", valid)
	}
}

func TestStoreOkOfHeldTimes(t *testing.T) {
	lists := [][]int{nil}
	for at := 0; at < len(lists); at++ {
		list := lists[at]
		s := bareStore(1, 3, list, nil)
		if ok := impl.StoreOk(s); ok != plainHeld(list, 3) {
			t.Errorf("with the held times %v at 3, StoreOk is %v", list, ok)
		}
		for time := -1; time <= 4 && len(list) < 4; time++ {
			lists = append(lists, append(slices.Clone(list), time))
		}
	}
}

func TestLimitsOfAStoreAreInclusive(t *testing.T) {
	for _, c := range []struct {
		what string
		s    impl.Store
		ok   bool
	}{
		{"Time 0", bareStore(1, 0, []int{0}, nil), true}, {"Time 999", bareStore(1, 999, []int{999}, []impl.Entry{put("a", 1, 999)}), true},
		{"Time -1", bareStore(1, -1, nil, nil), false}, {"Time 1000", bareStore(1, 1000, nil, nil), false},
		{"three held times", bareStore(1, 9, []int{0, 1, 9}, nil), true}, {"four held times", bareStore(1, 9, []int{0, 1, 2, 9}, nil), false},
		{"Top of 4", bareStore(1, 99, nil, longRun(4)), true}, {"Top of 5", bareStore(1, 99, nil, longRun(5)), false},
		{"level 0 of 8", bareStore(1, 99, nil, nil, longRun(8)), true}, {"level 0 of 9", bareStore(1, 99, nil, nil, longRun(9)), false},
		{"level 1 of 16", bareStore(1, 99, nil, nil, nil, longRun(16)), true}, {"level 1 of 17", bareStore(1, 99, nil, nil, nil, longRun(17)), false},
		{"level 2 of 24", bareStore(1, 99, nil, nil, nil, nil, longRun(24)), true}, {"level 2 of 25", bareStore(1, 99, nil, nil, nil, nil, longRun(25)), false},
		{"level 2 of 25 entries of a key", bareStore(1, 999, nil, nil, nil, nil, deepRun("a", 25)), false},
		{"nil lists", impl.Store{Levels: make([][]impl.Entry, 3), Sieves: make([]impl.Sieve, 3)}, true},
		{"empty lists", impl.Store{Top: []impl.Entry{}, Levels: [][]impl.Entry{{}, {}, {}}, Sieves: []impl.Sieve{{Rests: []string{}}, {}, {}}, Times: []int{}}, true},
	} {
		if ok := impl.StoreOk(c.s); ok != c.ok {
			t.Errorf("%s: StoreOk is %v", c.what, ok)
		}
	}
}

// The document leaves out the last level, where it forbids entries that are later than Time.
func TestALaterEntryIsAllowedInTheLastLevelOnly(t *testing.T) {
	for at := range 4 {
		for _, e := range []impl.Entry{put("b", 1, 6), gone("b", 6), put("b", 1, 999)} {
			runs := make([][]impl.Entry, 4)
			runs[at] = []impl.Entry{put("a", 2, 5), e}
			if ok := impl.StoreOk(bareStore(1, 5, []int{5}, runs[0], runs[1:]...)); ok != (at == 3) {
				t.Errorf("with %v at 5, StoreOk is %v", runs, ok)
			}
		}
	}
	for _, s := range laterStores() {
		for _, k := range storeKeys(s) {
			for _, time := range storeTimes(s) {
				e, ok := plainAt(entriesOf(s), k, time)
				if val, found := impl.StoreGet(s, k, time); found != (ok && !e.Gone) || val != e.Val {
					t.Errorf("StoreGet(%v, %q, %d) is %d, %v", s, k, time, val, found)
				}
			}
		}
		if list := wholeList(s, s.Time); !slices.Equal(list, plainList(entriesOf(s), "", "ddddd", s.Time)) {
			t.Errorf("at %d, %v has %v", s.Time, s, list)
		}
		for _, a := range []step{{"hold", "", 0}, {"down", "", 0}, {"join", "", 0}, {"join", "", 1}, {"put", "c", 1}, {"take", "c", 0}} {
			want, wantOk := plainDo(s, a)
			if next, ok := do(s, a); ok != wantOk || !sameStore(next, want) || !impl.StoreOk(next) {
				t.Errorf("%v of %v is %v, %v", a, s, next, ok)
			}
		}
	}
}

// What is written must be newer than what is below it: otherwise the result would be no store.
func TestNoKeyIsWrittenAheadOfALaterEntry(t *testing.T) {
	for _, c := range []struct {
		time int
		ok   bool
	}{{4, true}, {5, true}, {6, false}, {7, false}, {999, false}} {
		s := bareStore(1, 5, nil, []impl.Entry{put("b", 1, 5)}, nil, nil, []impl.Entry{put("a", 1, c.time)})
		for _, a := range []step{{"put", "a", 3}, {"take", "a", 0}} {
			if next, ok := do(s, a); ok != c.ok || impl.StoreOk(next) != c.ok || !ok && !noStore(next) {
				t.Errorf("with an entry at %d, %v at 5 is %v, %v", c.time, a, next, ok)
			}
		}
		if next, ok := impl.StorePut(s, "c", 3); !ok || !impl.StoreOk(next) {
			t.Errorf("with an entry at %d, another key is not written", c.time)
		}
	}
}

func TestEachOperationDoesWhatTheDocumentSays(t *testing.T) {
	done, refusals := 0, 0
	for _, s := range someStores() {
		for _, a := range steps(s) {
			want, wantOk := plainDo(s, a)
			next, ok := do(s, a)
			if ok != wantOk || !sameStore(next, want) {
				t.Fatalf("%v of %v is %v, %v, not %v, %v", a, s, next, ok, want, wantOk)
			}
			if ok {
				done++
			} else {
				refusals++
			}
		}
	}
	if done < 1000 || refusals < 1000 {
		t.Error("too few steps:", done, refusals)
	}
}

// eachShort performs all sequences of n of some steps, held against the document.
func eachShort(t *testing.T, s impl.Store, n int) {
	if n == 0 || t.Failed() {
		return
	}
	for _, a := range []step{{"put", "a", n}, {"take", "a", 0}, {"put", "ab", 50 + n}, {"hold", "", 0}, {"free", "", s.Time - 1}, {"down", "", 0}, {"join", "", 0}, {"join", "", 1}} {
		want, wantOk := plainDo(s, a)
		next, ok := do(s, a)
		if ok != wantOk || !sameStore(next, want) {
			t.Fatalf("%v of %v is %v, %v, not %v, %v", a, s, next, ok, want, wantOk)
		}
		if ok && !sameStore(next, s) {
			eachShort(t, next, n-1)
		}
	}
}

func TestEachSequenceOfAFewOperations(t *testing.T) {
	eachShort(t, bareStore(1, 0, nil, nil), 5)
	eachShort(t, bareStore(0, 4, []int{2}, puts([]string{"a", "ab", "b", "c"}, 1)), 4)
	eachShort(t, bareStore(5, 9, []int{3, 6}, []impl.Entry{gone("a", 9), put("a", 3, 7)}, []impl.Entry{gone("a", 6), gone("ab", 5)}, []impl.Entry{put("a", 1, 4), put("ab", 1, 3)}, []impl.Entry{gone("a", 2), put("ab", 9, 1)}), 4)
}

func TestLongHistories(t *testing.T) {
	for seed := range uint32(12) {
		s := bareStore(int(seed%6), 0, nil, nil)
		mixed := seed * 1237
		for range 700 {
			mixed = mixed*1664525 + 1013904223
			a := mixedStep(s, seed%3+1, mixed)
			want, wantOk := plainDo(s, a)
			next, ok := do(s, a)
			if ok != wantOk || !sameStore(next, want) {
				t.Fatalf("%v of %v is %v, %v, not %v, %v", a, s, next, ok, want, wantOk)
			}
			if ok {
				s = next
			}
		}
		if s.Time < 20 {
			t.Error("too short a history:", s.Time)
		}
	}
}

// Promises 42 and 44.
func TestWhatIsWrittenIsThereAndHeldTimesAreUnchanged(t *testing.T) {
	eachDone(t, "put take", func(s impl.Store, a step, next impl.Store) {
		if next.Time != s.Time+1 || !slices.Equal(next.Times, s.Times) || next.Keep != s.Keep {
			t.Fatalf("after %v of %v, Time is %d and Times are %v", a, s, next.Time, next.Times)
		}
		val, ok := impl.StoreGet(next, a.key, s.Time+1)
		if ok != (a.name == "put") || val != a.num {
			t.Fatalf("after %v of %v, StoreGet is %d, %v", a, s, val, ok)
		}
		for _, held := range s.Times {
			if one, other := wholeList(s, held), wholeList(next, held); !slices.Equal(one, other) {
				t.Fatalf("%v of %v changes %v to %v at %d", a, s, one, other, held)
			}
			one, oneOk := impl.StoreGet(s, a.key, held)
			other, otherOk := impl.StoreGet(next, a.key, held)
			if one != other || oneOk != otherOk {
				t.Fatalf("%v of %v changes %d, %v to %d, %v at %d", a, s, one, oneOk, other, otherOk, held)
			}
		}
	})
}

// Promises 43 and 45.
func TestWritingChangesNoOtherKey(t *testing.T) {
	eachDone(t, "put take", func(s impl.Store, a step, next impl.Store) {
		one, other := without(wholeList(s, s.Time), a.key), without(wholeList(next, next.Time), a.key)
		if !slices.Equal(one, other) {
			t.Fatalf("%v of %v changes other keys: %v, then %v", a, s, one, other)
		}
		for i, k := range storeKeys(s) {
			if i%4 != a.num%4 || k == a.key {
				continue
			}
			one, oneOk := impl.StoreGet(s, k, s.Time)
			other, otherOk := impl.StoreGet(next, k, next.Time)
			if one != other || oneOk != otherOk {
				t.Fatalf("%v of %v changes %q from %d, %v to %d, %v", a, s, k, one, oneOk, other, otherOk)
			}
		}
	})
}

// Promise 44: also a key that is not there can be deleted, and one that was is absent however deep it lies.
func TestADeletedKeyIsAbsentOnEachLevel(t *testing.T) {
	for at := range 4 {
		for _, times := range [][]int{nil, {3}, {5}} {
			runs := make([][]impl.Entry, 4)
			runs[at] = []impl.Entry{put("ab", 7, 2)}
			s, ok := impl.StoreTake(bareStore(1, 5, times, runs[0], runs[1:]...), "ab")
			for _, a := range []step{{"hold", "", 0}, {"down", "", 0}, {"join", "", 0}, {"join", "", 1}, {"join", "", 1}} {
				if val, found := impl.StoreGet(s, "ab", 6); !ok || found || val != 0 || len(wholeList(s, 6)) != 0 {
					t.Fatalf("at %d, after it was deleted, ab has %d in %v", at, val, s)
				}
				for _, held := range times {
					if val, found := impl.StoreGet(s, "ab", held); !found || val != 7 {
						t.Fatalf("at %d, ab has %d, %v in %v at %d", at, val, found, s, held)
					}
				}
				s, ok = do(s, a)
			}
		}
	}
}

// Promise 46.
func TestStoreHoldReturnsTheTimeAndIsIdempotent(t *testing.T) {
	full, done := 0, 0
	for _, s := range someStores() {
		held, time, ok := impl.StoreHold(s)
		if possible := len(s.Times) < 3 || slices.Contains(s.Times, s.Time); ok != possible {
			t.Fatalf("StoreHold(%v) is %v", s, ok)
		}
		if !ok {
			full++
			if time != 0 || !noStore(held) {
				t.Fatalf("StoreHold(%v) is %v, %d, false", s, held, time)
			}
			continue
		}
		done++
		want := copyStore(s)
		if !slices.Contains(want.Times, s.Time) {
			want.Times = append(want.Times, s.Time)
		}
		if time != s.Time || !sameStore(held, want) {
			t.Fatalf("StoreHold(%v) is %v, %d", s, held, time)
		}
		if again, time, ok := impl.StoreHold(held); !ok || time != s.Time || !sameStore(again, held) {
			t.Fatalf("StoreHold(%v) is %v, %d, %v", held, again, time, ok)
		}
	}
	if full < 20 || done < 100 {
		t.Error("too few stores:", full, done)
	}
}

func TestStoreHoldAtItsEdges(t *testing.T) {
	for _, c := range []struct {
		time        int
		times, want []int
		ok          bool
	}{
		{0, nil, []int{0}, true}, {0, []int{0}, []int{0}, true}, {5, nil, []int{5}, true}, {5, []int{5}, []int{5}, true}, {5, []int{2}, []int{2, 5}, true}, {5, []int{0, 4}, []int{0, 4, 5}, true},
		{5, []int{0, 4, 5}, []int{0, 4, 5}, true}, {5, []int{0, 3, 4}, nil, false}, {999, []int{0, 998}, []int{0, 998, 999}, true}, {999, []int{996, 997, 998}, nil, false},
	} {
		s, time, ok := impl.StoreHold(bareStore(1, c.time, c.times, nil))
		if ok != c.ok || !slices.Equal(s.Times, c.want) || ok && time != c.time || !ok && time != 0 {
			t.Errorf("StoreHold at %d with %v is %v, %d, %v", c.time, c.times, s.Times, time, ok)
		}
	}
}

// Promise 47.
func TestStoreFreeStopsHoldingATime(t *testing.T) {
	eachDone(t, "free", func(s impl.Store, a step, next impl.Store) {
		want := copyStore(s)
		want.Times = slices.DeleteFunc(want.Times, func(held int) bool { return held == a.num })
		if !slices.Contains(s.Times, a.num) || !sameStore(next, want) {
			t.Fatalf("StoreFree(%v, %d) is %v", s, a.num, next)
		}
		for _, time := range storeTimes(next) {
			if one, other := wholeList(s, time), wholeList(next, time); !slices.Equal(one, other) {
				t.Fatalf("StoreFree(%v, %d) changes %v to %v at %d", s, a.num, one, other, time)
			}
		}
		if a.num == s.Time {
			return
		}
		for _, k := range storeKeys(s) {
			if val, ok := impl.StoreGet(next, k, a.num); ok || val != 0 {
				t.Fatalf("after StoreFree(%v, %d), %q still has %d there", s, a.num, k, val)
			}
		}
		if list := wholeList(next, a.num); len(list) != 0 {
			t.Fatalf("after StoreFree(%v, %d), there still is %v", s, a.num, list)
		}
	})
}

func TestStoreFreeAtItsEdges(t *testing.T) {
	s := bareStore(1, 9, []int{0, 4, 9}, []impl.Entry{put("a", 2, 9)}, []impl.Entry{put("a", 1, 4)})
	for _, c := range []struct {
		time int
		want []int
	}{{0, []int{4, 9}}, {4, []int{0, 9}}, {9, []int{0, 4}}} {
		next, ok := impl.StoreFree(s, c.time)
		if !ok || !slices.Equal(next.Times, c.want) {
			t.Errorf("StoreFree of %d is %v, %v", c.time, next.Times, ok)
		}
		if again, ok := impl.StoreFree(next, c.time); ok || !noStore(again) {
			t.Errorf("%d is freed twice", c.time)
		}
		if val, ok := impl.StoreGet(next, "a", 9); !ok || val != 2 {
			t.Errorf("after StoreFree of %d, a has %d, %v now", c.time, val, ok)
		}
	}
	for _, time := range []int{-1, 1, 3, 5, 8, 10, 1000, math.MinInt, math.MaxInt} {
		if next, ok := impl.StoreFree(s, time); ok || !noStore(next) {
			t.Errorf("StoreFree of %d is %v, %v", time, next, ok)
		}
	}
	if next, ok := impl.StoreFree(bareStore(1, 9, nil, nil), 9); ok || !noStore(next) {
		t.Error("the present time is freed, though it is not held")
	}
}

// sameAtAllTimes says whether what two stores have at each time at which the first one can be read is the same.
func sameAtAllTimes(s, next impl.Store) bool {
	return !slices.ContainsFunc(storeTimes(s), func(time int) bool {
		return !slices.Equal(wholeList(s, time), wholeList(next, time))
	})
}

// Promise 48.
func TestStoreDownEmptiesTopAndChangesNothing(t *testing.T) {
	eachDone(t, "down", func(s impl.Store, a step, next impl.Store) {
		if len(next.Top) != 0 || next.Time != s.Time || next.Keep != s.Keep || !slices.Equal(next.Times, s.Times) {
			t.Fatalf("StoreDown(%v) is %v", s, next)
		}
		if !sameAtAllTimes(s, next) {
			t.Fatalf("StoreDown(%v) has other contents: %v", s, next)
		}
	})
}

// Promise 49.
func TestStoreJoinEmptiesTheLevelAndChangesNothing(t *testing.T) {
	eachDone(t, "join", func(s impl.Store, a step, next impl.Store) {
		if len(next.Levels[a.num]) != 0 || !slices.Equal(next.Top, s.Top) || next.Time != s.Time || next.Keep != s.Keep || !slices.Equal(next.Times, s.Times) {
			t.Fatalf("StoreJoin(%v, %d) is %v", s, a.num, next)
		}
		if !sameAtAllTimes(s, next) {
			t.Fatalf("StoreJoin(%v, %d) has other contents: %v", s, a.num, next)
		}
	})
}

func TestStoreJoinOfEachLevel(t *testing.T) {
	s := bareStore(1, 9, nil, []impl.Entry{put("a", 1, 9)}, []impl.Entry{put("b", 2, 8)}, []impl.Entry{put("c", 3, 7)}, []impl.Entry{put("d", 4, 6)})
	for level, want := range map[int]impl.Store{
		0: bareStore(1, 9, nil, s.Top, nil, []impl.Entry{put("b", 2, 8), put("c", 3, 7)}, s.Levels[2]),
		1: bareStore(1, 9, nil, s.Top, s.Levels[0], nil, []impl.Entry{put("c", 3, 7), put("d", 4, 6)}),
	} {
		if next, ok := impl.StoreJoin(s, level); !ok || !sameStore(next, want) {
			t.Errorf("StoreJoin of %d is %v, %v", level, next, ok)
		}
	}
	for _, level := range []int{-1, 2, 3, 4, -2, math.MinInt, math.MaxInt} {
		for _, s := range []impl.Store{s, bareStore(1, 9, nil, nil)} {
			if next, ok := impl.StoreJoin(s, level); ok || !noStore(next) {
				t.Errorf("StoreJoin of %d is %v, %v", level, next, ok)
			}
		}
	}
	for level := range 2 {
		empty := bareStore(1, 9, []int{4}, nil)
		if next, ok := impl.StoreJoin(empty, level); !ok || !sameStore(next, empty) {
			t.Errorf("StoreJoin of the empty level %d is %v, %v", level, next, ok)
		}
	}
}

// Promise 50.
func TestLevelsAreRunsAndFiltersAreThoseOfTheirKeys(t *testing.T) {
	eachDone(t, "put take hold free down join", func(s impl.Store, a step, next impl.Store) {
		if !impl.StoreOk(next) || !impl.RunOk(next.Top) || len(next.Levels) != 3 || len(next.Sieves) != 3 {
			t.Fatalf("%v of %v is %v", a, s, next)
		}
		for n, run := range next.Levels {
			f, ok := impl.SieveOf(impl.RunKeys(run), s.Keep)
			if !impl.RunOk(run) || !ok || !sameSieve(next.Sieves[n], f) {
				t.Fatalf("after %v of %v, level %d is %v, and its filter is %v", a, s, n, run, next.Sieves[n])
			}
		}
	})
}

// Promise 51.
func TestStoreGetIsStoreListOfThatKeyAlone(t *testing.T) {
	eachKey(func(s impl.Store, k string, time int) {
		var want []int
		for _, e := range impl.StoreList(s, k, k, time) {
			want = append(want, e.Val)
		}
		val, ok := impl.StoreGet(s, k, time)
		if ok && !slices.Equal(want, []int{val}) || !ok && (val != 0 || len(want) > 0) {
			t.Fatalf("StoreGet(%v, %q, %d) is %d, %v, and StoreList has %v", s, k, time, val, ok, want)
		}
	})
}

// Promise 52.
func TestStoreGetIsTheNewestEntryOfTopAndAllLevels(t *testing.T) {
	found := 0
	eachKey(func(s impl.Store, k string, time int) {
		e, there := plainAt(entriesOf(s), k, time)
		val, ok := impl.StoreGet(s, k, time)
		if ok != (there && !e.Gone) || val != e.Val {
			t.Fatalf("StoreGet(%v, %q, %d) is %d, %v, not that of %v", s, k, time, val, ok, e)
		}
		if ok {
			found++
		}
	})
	if found < 1000 {
		t.Error("too few keys are there:", found)
	}
}

// Promise 53.
func TestListedEntriesAreFoundByStoreGet(t *testing.T) {
	eachRange(func(s impl.Store, from, to string, time int) {
		list := impl.StoreList(s, from, to, time)
		for i, e := range list {
			val, ok := impl.StoreGet(s, e.Key, time)
			if !ok || val != e.Val || e.Gone || e.Key < from || e.Key > to || e.Time > time || i > 0 && list[i-1].Key >= e.Key {
				t.Fatalf("StoreList(%v, %q, %q, %d) is %v; %q has %d, %v", s, from, to, time, list, e.Key, val, ok)
			}
		}
	})
}

// Promise 54.
func TestStoreListIsWhatAllRunsHaveInTheRange(t *testing.T) {
	listed := 0
	eachRange(func(s impl.Store, from, to string, time int) {
		list, want := impl.StoreList(s, from, to, time), plainList(entriesOf(s), from, to, time)
		if !slices.Equal(list, want) {
			t.Fatalf("StoreList(%v, %q, %q, %d) is %v, not %v", s, from, to, time, list, want)
		}
		listed += len(list)
	})
	if listed < 1000 {
		t.Error("too few entries are listed:", listed)
	}
}

// levelsWith is how many levels have a key in a range.
func levelsWith(s impl.Store, from, to string) int {
	n := 0
	for _, run := range s.Levels {
		if slices.ContainsFunc(run, func(e impl.Entry) bool { return from <= e.Key && e.Key <= to }) {
			n++
		}
	}
	return n
}

// Promise 55.
func TestStoreLooksCountsEachLevelThatHasTheKey(t *testing.T) {
	more := 0
	for _, s := range someStores() {
		for _, k := range storeKeys(s) {
			looks, has, want := impl.StoreLooks(s, k), levelsWith(s, k, k), 0
			for _, run := range s.Levels {
				if plainHas(plainHeads(plainKeys(run), s.Keep), k) {
					want++
				}
			}
			if looks != want || looks < has || s.Keep == 5 && looks != has {
				t.Fatalf("StoreLooks(%v, %q) is %d, not %d; %d levels have it", s, k, looks, want, has)
			}
			if looks > has {
				more++
			}
		}
	}
	if more < 100 {
		t.Error("too few filters accept other keys:", more)
	}
}

// Promise 56.
func TestStoreSpansCountsEachLevelThatHasKeysInTheRange(t *testing.T) {
	more := 0
	eachRange(func(s impl.Store, from, to string, time int) {
		spans, has, want := impl.StoreSpans(s, from, to), levelsWith(s, from, to), 0
		for _, run := range s.Levels {
			if plainMeets(plainHeads(plainKeys(run), s.Keep), from, to) {
				want++
			}
		}
		if spans != want || spans < has || from <= to && spans < impl.StoreLooks(s, from) || from > to && spans != 0 {
			t.Fatalf("StoreSpans(%v, %q, %q) is %d, not %d; %d levels have keys there", s, from, to, spans, want, has)
		}
		if spans > has {
			more++
		}
	})
	if more < 100 {
		t.Error("too few filters meet other ranges:", more)
	}
}

func TestStoreLooksAndSpansThatAreWrittenOut(t *testing.T) {
	s := bareStore(1, 9, nil, []impl.Entry{put("b", 1, 9)}, []impl.Entry{put("abc", 1, 8)}, []impl.Entry{gone("abc", 3), put("cda", 1, 2)}, []impl.Entry{put("a", 1, 1), put("ab", 1, 1)})
	for _, c := range []struct {
		k     string
		looks int
	}{{"abc", 2}, {"abd", 2}, {"ab", 3}, {"a", 1}, {"b", 0}, {"cda", 1}, {"cdb", 1}, {"ca", 0}, {"", 0}, {"d", 0}} {
		if looks := impl.StoreLooks(s, c.k); looks != c.looks {
			t.Errorf("StoreLooks of %q is %d", c.k, looks)
		}
	}
	for _, c := range []struct {
		from, to string
		spans    int
	}{{"", "ddddd", 3}, {"", "a", 1}, {"a", "a", 1}, {"", "", 0}, {"b", "b", 0}, {"b", "d", 1}, {"aa", "ab", 3}, {"ac", "b", 0}, {"cdd", "d", 1}, {"d", "ddddd", 0}, {"d", "a", 0}, {"abc", "ab", 0}} {
		if spans := impl.StoreSpans(s, c.from, c.to); spans != c.spans {
			t.Errorf("StoreSpans from %q to %q is %d", c.from, c.to, spans)
		}
	}
}

// Promise 57.
func TestOnAnInvalidStoreNoOperationIsPossible(t *testing.T) {
	for what, s := range notStores() {
		for _, a := range append(steps(some()), steps(s)...) {
			if next, ok := do(s, a); ok || !noStore(next) {
				t.Errorf("%s: %v is %v, %v", what, a, next, ok)
			}
		}
		if _, time, ok := impl.StoreHold(s); ok || time != 0 {
			t.Errorf("%s: StoreHold is %d, %v", what, time, ok)
		}
		for _, k := range append(storeKeys(s), "e") {
			for _, time := range append(storeTimes(s), 9, 5, 0) {
				val, ok := impl.StoreGet(s, k, time)
				if ok || val != 0 || impl.StoreLooks(s, k) != -1 || impl.StoreSpans(s, k, "ddddd") != -1 || len(impl.StoreList(s, k, "ddddd", time)) != 0 {
					t.Fatalf("%s: %q is read at %d", what, k, time)
				}
			}
		}
	}
}

// some is a store to take steps from.
func some() impl.Store {
	return bareStore(1, 9, []int{2, 5}, []impl.Entry{put("a", 1, 9)}, []impl.Entry{put("b", 3, 7)})
}

// Promise 58.
func TestWritingTwiceEqualsWritingOnceExceptForTimes(t *testing.T) {
	twice := 0
	eachDone(t, "put take", func(s impl.Store, once step, next impl.Store) {
		again, ok := do(next, once)
		if !ok {
			return
		}
		twice++
		if one, other := values(wholeList(next, next.Time)), values(wholeList(again, again.Time)); !slices.Equal(one, other) || again.Time != next.Time+1 {
			t.Fatalf("%v of %v gives %v, and again %v", once, s, one, other)
		}
		for _, held := range s.Times {
			if !slices.Equal(wholeList(next, held), wholeList(again, held)) {
				t.Fatalf("%v of %v, done again, changes what there is at %d", once, s, held)
			}
		}
	})
	if twice < 1000 {
		t.Error("too few steps are possible twice:", twice)
	}
}

// Promise 59.
func TestStoreDownTwiceChangesNothing(t *testing.T) {
	eachDone(t, "down", func(s impl.Store, a step, next impl.Store) {
		if again, ok := impl.StoreDown(next); !ok || !sameStore(again, next) {
			t.Fatalf("StoreDown(%v) is %v, then %v, %v", s, next, again, ok)
		}
	})
}

// Promise 60.
func TestAFilterAcceptsWhatItsLevelHas(t *testing.T) {
	none := 0
	eachDone(t, "put take down join", func(s impl.Store, a step, next impl.Store) {
		for n, run := range next.Levels {
			for _, k := range plainKeys(run) {
				if !impl.SieveHas(next.Sieves[n], k) {
					t.Fatalf("after %v of %v, the filter of level %d denies %q", a, s, n, k)
				}
			}
		}
	})
	eachKey(func(s impl.Store, k string, time int) {
		if impl.StoreLooks(s, k) > 0 {
			return
		}
		none++
		inTop := slices.ContainsFunc(s.Top, func(e impl.Entry) bool { return e.Key == k })
		if val, ok := impl.StoreGet(s, k, time); ok && !inTop {
			t.Fatalf("no filter of %v accepts %q, but it has %d", s, k, val)
		}
	})
	if none < 1000 {
		t.Error("too few keys that no filter accepts:", none)
	}
}

// Promise 61.
func TestWritingFailsOnlyIfNoTimeIsLeftOrTopCannotBePushed(t *testing.T) {
	noTime, noRoom, pushed := 0, 0, 0
	stores := slices.Clone(someStores())
	for _, s := range someStores() {
		late := copyStore(s)
		late.Time = 999
		early := copyStore(s)
		early.Time = max(998, s.Time)
		stores = append(stores, late, early)
	}
	for _, s := range stores {
		_, down := impl.StoreDown(s)
		possible := s.Time < 999 && (len(s.Top) < 4 || down)
		for _, a := range []step{{"put", "", 0}, {"put", "ddddd", 99}, {"take", "", 0}, {"put", "ab", 1}, {"take", "abc", 0}} {
			next, ok := do(s, a)
			if ok != possible || !ok && !noStore(next) || ok && next.Time != s.Time+1 {
				t.Fatalf("%v of %v is %v, %v", a, s, next, ok)
			}
		}
		switch {
		case s.Time == 999:
			noTime++
		case !possible:
			noRoom++
		case len(s.Top) == 4:
			pushed++
		}
	}
	if noTime < 20 || noRoom < 20 || pushed < 20 {
		t.Error("too few stores:", noTime, noRoom, pushed)
	}
}

// Promise 62.
func TestStoreListCanBeSplitAtAKey(t *testing.T) {
	all := allKeys()
	eachRange(func(s impl.Store, from, to string, time int) {
		list := impl.StoreList(s, from, to, time)
		for i, at := range storeKeys(s) {
			place, _ := slices.BinarySearch(all, at)
			if i%3 > 0 || at < from || at >= to || place+1 == len(all) {
				continue
			}
			one, other := impl.StoreList(s, from, at, time), impl.StoreList(s, all[place+1], to, time)
			if !slices.Equal(slices.Concat(one, other), list) {
				t.Fatalf("StoreList(%v, %q, %q, %d) is %v, and split at %q %v and %v", s, from, to, time, list, at, one, other)
			}
		}
	})
}

// Promise 63.
func TestThePresentContentsArePreservedIfNoTimeIsHeld(t *testing.T) {
	done := 0
	for _, s := range someStores() {
		s := copyStore(s)
		s.Times = nil
		want := plainList(entriesOf(s), "", "ddddd", s.Time)
		for _, a := range []step{{"down", "", 0}, {"join", "", 1}, {"join", "", 0}, {"down", "", 0}, {"join", "", 0}, {"join", "", 1}} {
			next, ok := do(s, a)
			if !ok {
				continue
			}
			if list := wholeList(next, s.Time); !slices.Equal(list, want) || len(next.Times) != 0 {
				t.Fatalf("%v of %v has %v, not %v", a, s, list, want)
			}
			s = next
			done++
		}
	}
	if done < 1000 {
		t.Error("too few steps are possible:", done)
	}
}

func TestAPutIntoAFullTop(t *testing.T) {
	top := []impl.Entry{put("a", 3, 4), put("a", 1, 2), gone("b", 3), put("c", 9, 1)}
	below := []impl.Entry{put("a", 0, 1)}
	for _, c := range []struct {
		times []int
		want  []impl.Entry
	}{
		{nil, []impl.Entry{put("a", 3, 4), gone("b", 3), put("c", 9, 1)}},
		{[]int{0, 1}, []impl.Entry{put("a", 3, 4), put("a", 0, 1), gone("b", 3), put("c", 9, 1)}},
		{[]int{2}, []impl.Entry{put("a", 3, 4), put("a", 1, 2), gone("b", 3), put("c", 9, 1)}},
		{[]int{1, 3, 4}, []impl.Entry{put("a", 3, 4), put("a", 1, 2), put("a", 0, 1), gone("b", 3), put("c", 9, 1)}},
	} {
		next, ok := impl.StorePut(bareStore(2, 4, c.times, top, below), "a", 5)
		if want := bareStore(2, 5, c.times, []impl.Entry{put("a", 5, 5)}, c.want); !ok || !sameStore(next, want) {
			t.Errorf("with %v, a put into a full Top gives %v, %v", c.times, next, ok)
		}
	}
	next, ok := impl.StorePut(bareStore(2, 4, nil, top[1:], below), "a", 5)
	if want := bareStore(2, 5, nil, append([]impl.Entry{put("a", 5, 5)}, top[1:]...), below); !ok || !sameStore(next, want) {
		t.Errorf("a put into a Top of three gives %v, %v", next, ok)
	}
}

// sizes is how many entries Top and each level have.
func sizes(s impl.Store) [4]int {
	var n [4]int
	for i, run := range runsOf(s) {
		n[i] = len(run)
	}
	return n
}

func TestPutsUntilNoPushIsPossible(t *testing.T) {
	keys := spreadKeys(54, 2)
	s, ok := impl.StoreNew(1)
	for i := 0; ok && i < len(keys); i++ {
		next, done := impl.StorePut(s, keys[(i*31)%54], i)
		if !done {
			break
		}
		s = next
		want := map[int][4]int{4: {4}, 5: {1, 4}, 9: {1, 8}, 13: {1, 4, 8}, 17: {1, 8, 8}, 21: {1, 4, 16}, 25: {1, 8, 16}, 29: {1, 4, 8, 16}, 33: {1, 8, 8, 16}, 37: {1, 4, 16, 16}, 41: {1, 8, 16, 16}}
		if n, some := want[i+1]; some && sizes(s) != n {
			t.Errorf("after %d puts, there are %v", i+1, sizes(s))
		}
	}
	if s.Time != 44 || sizes(s) != [4]int{4, 8, 16, 16} || len(wholeList(s, 44)) != 44 {
		t.Fatalf("no put is possible at %d, with %v", s.Time, sizes(s))
	}
	for _, a := range []step{{"put", "a", 1}, {"take", keys[0], 0}, {"down", "", 0}, {"join", "", 0}, {"join", "", 1}} {
		if next, ok := do(s, a); ok || !noStore(next) {
			t.Errorf("%v of a store without room is %v, %v", a, next, ok)
		}
	}
}

func TestPushesIntoFullLevels(t *testing.T) {
	full := fullStore(1)
	// room is the full store with only so many entries in Top and each level.
	room := func(n [4]int) impl.Store {
		return bareStore(1, 52, nil, full.Top[:n[0]], full.Levels[0][:n[1]], full.Levels[1][:n[2]], full.Levels[2][:n[3]])
	}
	for _, c := range []struct {
		a      step
		n, end [4]int
		ok     bool
	}{
		{step{"down", "", 0}, [4]int{4, 4, 16, 24}, [4]int{0, 8, 16, 24}, true}, {step{"down", "", 0}, [4]int{3, 5, 16, 24}, [4]int{0, 8, 16, 24}, true},
		{step{"down", "", 0}, [4]int{4, 5, 11, 24}, [4]int{0, 4, 16, 24}, true}, {step{"down", "", 0}, [4]int{1, 8, 8, 24}, [4]int{0, 1, 16, 24}, true},
		{step{"down", "", 0}, [4]int{1, 8, 9, 15}, [4]int{0, 1, 8, 24}, true}, {step{"down", "", 0}, [4]int{4, 8, 16, 8}, [4]int{0, 4, 8, 24}, true},
		{step{"down", "", 0}, [4]int{1, 8, 9, 16}, [4]int{}, false}, {step{"down", "", 0}, [4]int{4, 8, 16, 9}, [4]int{}, false}, {step{"down", "", 0}, [4]int{4, 8, 16, 24}, [4]int{}, false},
		{step{"down", "", 0}, [4]int{0, 8, 16, 24}, [4]int{0, 8, 16, 24}, true}, {step{"put", "a", 1}, [4]int{3, 8, 16, 24}, [4]int{4, 8, 16, 24}, true},
		{step{"put", "a", 1}, [4]int{4, 8, 16, 24}, [4]int{}, false}, {step{"put", "a", 1}, [4]int{4, 8, 16, 8}, [4]int{1, 4, 8, 24}, true}, {step{"take", "a", 0}, [4]int{4, 8, 16, 8}, [4]int{1, 4, 8, 24}, true},
		{step{"join", "", 0}, [4]int{4, 8, 8, 24}, [4]int{4, 0, 16, 24}, true}, {step{"join", "", 0}, [4]int{4, 8, 9, 15}, [4]int{4, 0, 8, 24}, true},
		{step{"join", "", 0}, [4]int{4, 8, 16, 8}, [4]int{4, 0, 8, 24}, true}, {step{"join", "", 0}, [4]int{4, 8, 9, 16}, [4]int{}, false}, {step{"join", "", 0}, [4]int{4, 0, 16, 24}, [4]int{4, 0, 16, 24}, true},
		{step{"join", "", 1}, [4]int{4, 8, 16, 8}, [4]int{4, 8, 0, 24}, true}, {step{"join", "", 1}, [4]int{4, 8, 16, 9}, [4]int{}, false},
		{step{"join", "", 1}, [4]int{4, 8, 1, 24}, [4]int{}, false}, {step{"join", "", 1}, [4]int{4, 8, 0, 24}, [4]int{4, 8, 0, 24}, true},
	} {
		s := room(c.n)
		next, ok := do(s, c.a)
		if ok != c.ok || sizes(next) != c.end || ok && !slices.Equal(without(wholeList(next, next.Time), "a"), wholeList(s, 52)) {
			t.Errorf("%v with %v gives %v, %v", c.a, c.n, sizes(next), ok)
		}
		if !ok && !noStore(next) {
			t.Errorf("%v with %v gives %v", c.a, c.n, next)
		}
	}
}

// A push that has no room at first may have it when it is trimmed.
func TestAPushIsTrimmedBeforeItIsMeasured(t *testing.T) {
	keys := spreadKeys(24, 21)
	for _, c := range []struct {
		what  string
		times []int
		ok    bool
	}{{"no time is held", nil, true}, {"the times are earlier", []int{0}, true}, {"the time is the present one", []int{70}, true}, {"the old values are held", []int{40}, false}} {
		old, changed := puts(keys, 1), puts(keys[4:20], 41)
		s := bareStore(1, 70, c.times, nil, nil, changed, old)
		next, ok := impl.StoreJoin(s, 1)
		if ok != c.ok || ok && len(next.Levels[2]) != 24 || ok && !sameAtAllTimes(s, next) {
			t.Errorf("if %s, changed values go into a full last level: %v", c.what, ok)
		}
		above := bareStore(1, 70, c.times, puts(keys[2:6], 41), puts(keys[:8], 1))
		next, ok = impl.StoreDown(above)
		want := [4]int{0, 8, 0, 0}
		if !c.ok {
			want = [4]int{0, 4, 8, 0}
		}
		if !ok || sizes(next) != want || !sameAtAllTimes(above, next) {
			t.Errorf("if %s, changed values go into a full level 0: %v", c.what, sizes(next))
		}
	}
	var deleted []impl.Entry
	for i, k := range keys[4:20] {
		deleted = append(deleted, gone(k, 41+i))
	}
	next, ok := impl.StoreJoin(bareStore(1, 70, nil, nil, nil, deleted, puts(keys, 1)), 1)
	if !ok || sizes(next) != [4]int{0, 0, 0, 8} {
		t.Error("deletions go into a full last level:", ok, sizes(next))
	}
	next, ok = impl.StoreJoin(bareStore(1, 70, nil, nil, nil, deleted, puts(keys[:2], 1)), 1)
	if !ok || sizes(next) != [4]int{0, 0, 0, 2} {
		t.Error("deletions of what is not there go into the last level:", ok, sizes(next))
	}
}

func TestDeletionsStayAboveTheBottom(t *testing.T) {
	s := bareStore(1, 9, nil, []impl.Entry{gone("a", 9), put("b", 1, 8)}, nil, nil, []impl.Entry{put("a", 1, 1)})
	for _, c := range []struct {
		a    step
		want impl.Store
	}{
		{step{"down", "", 0}, bareStore(1, 9, nil, nil, s.Top, nil, s.Levels[2])},
		{step{"join", "", 0}, bareStore(1, 9, nil, nil, nil, s.Top, s.Levels[2])},
		{step{"join", "", 1}, bareStore(1, 9, nil, nil, nil, nil, []impl.Entry{put("b", 1, 8)})},
	} {
		next, ok := do(s, c.a)
		if !ok || !sameStore(next, c.want) {
			t.Fatalf("%v of %v is %v, %v", c.a, s, next, ok)
		}
		s = next
	}
}

func TestHeldTimesWhileRunsAreMerged(t *testing.T) {
	top := []impl.Entry{gone("a", 9), put("a", 4, 7)}
	low := []impl.Entry{put("a", 3, 5), gone("a", 3)}
	last := []impl.Entry{put("a", 1, 1)}
	for _, c := range []struct {
		times         []int
		above, bottom []impl.Entry
	}{
		{nil, []impl.Entry{gone("a", 9)}, nil},
		{[]int{9}, []impl.Entry{gone("a", 9)}, nil},
		{[]int{8}, top, top},
		{[]int{7, 9}, top, top},
		{[]int{6}, []impl.Entry{gone("a", 9), put("a", 3, 5)}, []impl.Entry{gone("a", 9), put("a", 3, 5)}},
		{[]int{5, 8}, slices.Concat(top, low[:1]), slices.Concat(top, low[:1])},
		{[]int{4}, []impl.Entry{gone("a", 9), gone("a", 3)}, []impl.Entry{gone("a", 9)}},
		{[]int{4, 6}, []impl.Entry{gone("a", 9), put("a", 3, 5), gone("a", 3)}, []impl.Entry{gone("a", 9), put("a", 3, 5)}},
		{[]int{2, 4}, []impl.Entry{gone("a", 9), gone("a", 3)}, []impl.Entry{gone("a", 9), gone("a", 3), put("a", 1, 1)}},
		{[]int{1}, []impl.Entry{gone("a", 9)}, []impl.Entry{gone("a", 9), put("a", 1, 1)}},
		{[]int{0}, []impl.Entry{gone("a", 9)}, nil},
		{[]int{2, 6, 8}, slices.Concat(top, low[:1]), slices.Concat(top, low[:1], last)},
	} {
		s := bareStore(1, 9, c.times, top, low, nil, last)
		above, ok := impl.StoreDown(s)
		if !ok || !slices.Equal(above.Levels[0], c.above) || !sameAtAllTimes(s, above) {
			t.Errorf("with %v, level 0 is %v", c.times, above.Levels[0])
		}
		bottom, ok := impl.StoreJoin(bareStore(1, 9, c.times, nil, nil, slices.Concat(top, low), last), 1)
		if !ok || !slices.Equal(bottom.Levels[2], c.bottom) || !sameAtAllTimes(s, bottom) {
			t.Errorf("with %v, level 2 is %v", c.times, bottom.Levels[2])
		}
	}
}

// No run that fits into a level has more keys than a filter, as the last level has room for just KeysMax entries.
func TestTheLastLevelHasAsManyKeysAsAFilter(t *testing.T) {
	keys := spreadKeys(25, 21)
	for keep := range 6 {
		s := bareStore(keep, 99, nil, nil, nil, puts(keys[:1], 60), puts(keys[1:24], 1))
		next, ok := impl.StoreJoin(s, 1)
		if !ok || len(impl.RunKeys(next.Levels[2])) != 24 || impl.SieveSize(next.Sieves[2]) < 24 {
			t.Errorf("a last level of 24 keys: %v, %v", next, ok)
		}
		for _, k := range keys[:24] {
			if _, found := impl.StoreGet(next, k, 99); !found || impl.StoreLooks(next, k) != 1 {
				t.Errorf("%q is not there", k)
			}
		}
		for n := 1; n <= 16; n++ {
			s := bareStore(keep, 99, nil, nil, nil, puts(keys[:n], 60), puts(keys[n:], 1))
			if len(s.Levels[2]) > 24 {
				continue
			}
			if next, ok := impl.StoreJoin(s, 1); ok || !noStore(next) {
				t.Errorf("a last level of 25 keys: %v, %v", next, ok)
			}
		}
	}
}

func TestTimeAtItsEdges(t *testing.T) {
	s, _ := impl.StorePut(bareStore(1, 0, []int{0}, nil), "a", 4)
	if want := bareStore(1, 1, []int{0}, []impl.Entry{put("a", 4, 1)}); !sameStore(s, want) {
		t.Errorf("a put at 0 gives %v", s)
	}
	if val, ok := impl.StoreGet(s, "a", 0); ok || val != 0 {
		t.Error("a is there at 0:", val)
	}
	s, ok := impl.StorePut(bareStore(1, 998, nil, []impl.Entry{put("a", 1, 998)}), "a", 4)
	if want := bareStore(1, 999, nil, []impl.Entry{put("a", 4, 999), put("a", 1, 998)}); !ok || !sameStore(s, want) {
		t.Errorf("a put at 998 gives %v, %v", s, ok)
	}
	for _, a := range []step{{"put", "a", 1}, {"put", "b", 0}, {"take", "a", 0}} {
		if next, ok := do(s, a); ok || !noStore(next) {
			t.Errorf("%v at 999 gives %v, %v", a, next, ok)
		}
	}
	for _, a := range []step{{"hold", "", 0}, {"free", "", 999}, {"down", "", 0}, {"join", "", 0}, {"join", "", 1}} {
		if s, ok = do(s, a); !ok || s.Time != 999 {
			t.Fatalf("%v at 999 gives %v, %v", a, s, ok)
		}
	}
	if val, ok := impl.StoreGet(s, "a", 999); !ok || val != 4 {
		t.Error("at 999, a has", val, ok)
	}
}

func TestStorePutTakesKeysAndValuesOnly(t *testing.T) {
	full := bareStore(1, 9, nil, puts([]string{"a", "b", "c", "d"}, 1))
	for _, s := range []impl.Store{bareStore(1, 9, nil, nil), full} {
		for _, k := range notKeys() {
			one, oneOk := impl.StorePut(s, k, 1)
			other, otherOk := impl.StoreTake(s, k)
			if oneOk || otherOk || !noStore(one) || !noStore(other) {
				t.Errorf("%q is written", k)
			}
		}
		for _, val := range []int{-1, 100, -99, 1000, math.MinInt, math.MaxInt} {
			if next, ok := impl.StorePut(s, "a", val); ok || !noStore(next) {
				t.Errorf("StorePut of %d is %v, %v", val, next, ok)
			}
		}
		for val := range 100 {
			next, ok := impl.StorePut(s, "", val)
			if got, found := impl.StoreGet(next, "", 10); !ok || !found || got != val {
				t.Errorf("after StorePut of %d, there is %d, %v", val, got, found)
			}
		}
	}
}

func TestStoresAreReadAtTimeAndAtHeldTimesOnly(t *testing.T) {
	s := bareStore(1, 9, []int{0, 3, 6}, []impl.Entry{put("a", 4, 8), gone("b", 7)}, []impl.Entry{put("a", 3, 5)}, []impl.Entry{put("b", 2, 4)}, []impl.Entry{put("a", 1, 2), put("b", 1, 1)})
	read := map[int][]impl.Entry{0: nil, 3: {put("a", 1, 2), put("b", 1, 1)}, 6: {put("a", 3, 5), put("b", 2, 4)}, 9: {put("a", 4, 8)}}
	for time := -2; time < 15; time++ {
		want := read[time]
		if list := wholeList(s, time); !slices.Equal(list, want) {
			t.Errorf("at %d, there is %v", time, list)
		}
		for _, k := range []string{"a", "b", "c", ""} {
			e, there := plainAt(want, k, time)
			if val, ok := impl.StoreGet(s, k, time); ok != there || val != e.Val {
				t.Errorf("at %d, %q has %d, %v", time, k, val, ok)
			}
		}
	}
	for _, time := range []int{math.MinInt, math.MaxInt, 999, 1000} {
		if val, ok := impl.StoreGet(s, "a", time); ok || val != 0 || len(wholeList(s, time)) != 0 {
			t.Errorf("the store is read at %d", time)
		}
	}
}

func TestStoresAreReadByKeysOnly(t *testing.T) {
	s := bareStore(0, 9, nil, puts([]string{"", "a", "d"}, 7), puts([]string{"ab", "cc"}, 5), nil, puts([]string{"abcda", "dd"}, 1))
	for _, k := range notKeys() {
		val, ok := impl.StoreGet(s, k, 9)
		if ok || val != 0 || impl.StoreLooks(s, k) != -1 {
			t.Errorf("StoreGet of %q is %d, %v, and StoreLooks %d", k, val, ok, impl.StoreLooks(s, k))
		}
		for _, ends := range [][2]string{{"", k}, {k, "ddddd"}, {k, k}, {"ddddd", k}, {k, ""}} {
			if list := impl.StoreList(s, ends[0], ends[1], 9); len(list) != 0 || impl.StoreSpans(s, ends[0], ends[1]) != -1 {
				t.Errorf("from %q to %q there is %v", ends[0], ends[1], list)
			}
		}
	}
}

func TestStoreListAtItsEdges(t *testing.T) {
	s := bareStore(0, 9, []int{6}, []impl.Entry{put("", 1, 9), gone("ab", 7)}, []impl.Entry{put("ab", 2, 5), put("b", 3, 8)}, []impl.Entry{put("abc", 4, 4)}, []impl.Entry{put("a", 5, 1), put("ddddd", 6, 2)})
	for _, c := range []struct {
		from, to string
		time     int
		want     []impl.Entry
	}{
		{"", "ddddd", 9, []impl.Entry{put("", 1, 9), put("a", 5, 1), put("abc", 4, 4), put("b", 3, 8), put("ddddd", 6, 2)}},
		{"", "ddddd", 6, []impl.Entry{put("a", 5, 1), put("ab", 2, 5), put("abc", 4, 4), put("ddddd", 6, 2)}},
		{"", "", 9, []impl.Entry{put("", 1, 9)}}, {"", "", 6, nil}, {"ab", "ab", 9, nil}, {"ab", "ab", 6, []impl.Entry{put("ab", 2, 5)}},
		{"abc", "abc", 9, []impl.Entry{put("abc", 4, 4)}}, {"aba", "abb", 9, nil}, {"a", "b", 9, []impl.Entry{put("a", 5, 1), put("abc", 4, 4), put("b", 3, 8)}},
		{"aa", "ad", 9, []impl.Entry{put("abc", 4, 4)}}, {"b", "a", 9, nil}, {"ddddd", "", 9, nil}, {"ba", "dddda", 9, nil}, {"dd", "ddddd", 6, []impl.Entry{put("ddddd", 6, 2)}},
	} {
		if list := impl.StoreList(s, c.from, c.to, c.time); !slices.Equal(list, c.want) {
			t.Errorf("from %q to %q at %d there is %v", c.from, c.to, c.time, list)
		}
	}
}

// A store has more keys than a run or a filter can have.
func TestAFullStoreIsListedWhole(t *testing.T) {
	for keep := range 6 {
		s := fullStore(keep)
		list := wholeList(s, 52)
		if !slices.Equal(list, inOrder(entriesOf(s))) || len(list) != 52 {
			t.Fatalf("there are %d: %v", len(list), list)
		}
		for _, e := range list {
			if val, ok := impl.StoreGet(s, e.Key, 52); !ok || val != e.Val {
				t.Errorf("%q has %d, %v", e.Key, val, ok)
			}
		}
		if half := wholeList(s, 24); len(half) != 24 {
			t.Errorf("at 24, there are %d: %v", len(half), half)
		}
	}
}

// roomyStore is a store whose lists have spare room behind them.
func roomyStore(s impl.Store) impl.Store {
	s = copyStore(s)
	s.Top, _ = roomy(s.Top, mine, mine, mine)
	s.Times, _ = roomy(s.Times, 7, 3, 5)
	for n := range s.Levels {
		s.Levels[n], _ = roomy(s.Levels[n], put("spare", 1, 1), gone("room", 2), mine)
	}
	for n := range s.Sieves {
		s.Sieves[n].Rests, _ = roomy(s.Sieves[n].Rests, "spare", "room")
	}
	s.Levels, _ = roomy(s.Levels, []impl.Entry{mine}, []impl.Entry{mine})
	s.Sieves, _ = roomy(s.Sieves, impl.Sieve{Letters: "spare"}, impl.Sieve{Rests: []string{"room"}})
	return s
}

// roomOf is a store in memory of its own, with the spare room of all its lists.
func roomOf(s impl.Store) impl.Store {
	s.Top, s.Levels, s.Sieves, s.Times = s.Top[:cap(s.Top)], slices.Clone(s.Levels[:cap(s.Levels)]), slices.Clone(s.Sieves[:cap(s.Sieves)]), s.Times[:cap(s.Times)]
	for n, run := range s.Levels {
		s.Levels[n] = run[:cap(run)]
	}
	for n, f := range s.Sieves {
		s.Sieves[n].Rests = f.Rests[:cap(f.Rests)]
	}
	return copyStore(s)
}

// overwriteStore fills all lists of a store, and their spare room.
func overwriteStore(s impl.Store) {
	overwrite(s.Top, mine)
	overwrite(s.Times, -7)
	for _, run := range s.Levels {
		overwrite(run, mine)
	}
	for _, f := range s.Sieves {
		overwrite(f.Rests, "mine")
	}
	overwrite(s.Levels, nil)
	overwrite(s.Sieves, impl.Sieve{Letters: "mine"})
}

func TestStoreFunctionsLeaveTheirStoreAlone(t *testing.T) {
	stores := slices.Concat(someStores(), laterStores())
	for _, s := range notStores() {
		stores = append(stores, s)
	}
	for _, s := range stores {
		given := roomyStore(s)
		was := roomOf(given)
		impl.StoreOk(given)
		for _, a := range steps(s) {
			next, _ := do(given, a)
			again, ok := do(given, a)
			overwriteStore(next)
			if want, wantOk := do(s, a); ok != wantOk || !sameStore(again, want) {
				t.Fatalf("two results of %v of %v share memory, or depend on spare room", a, s)
			}
		}
		for _, k := range storeKeys(s) {
			impl.StoreGet(given, k, s.Time)
			impl.StoreLooks(given, k)
			impl.StoreSpans(given, k, "ddddd")
			overwrite(impl.StoreList(given, "", k, s.Time), mine)
		}
		if !reflect.DeepEqual(roomOf(given), was) {
			t.Fatalf("a function of %v changes it or shares memory", s)
		}
	}
}

// apart says whether each of some lists stays as it is filled, with all its spare room, while the others are filled.
func apart[T comparable](lists [][]T, mine func(i int) T) bool {
	for i, list := range lists {
		overwrite(list, mine(i))
	}
	for i, list := range lists {
		if slices.ContainsFunc(list[:cap(list)], func(item T) bool { return item != mine(i) }) {
			return false
		}
	}
	return true
}

// listsApart says whether no two lists of a store share memory. It overwrites them.
func listsApart(s impl.Store) bool {
	rests := make([][]string, len(s.Sieves))
	for n, f := range s.Sieves {
		rests[n] = f.Rests
	}
	return apart(runsOf(s), func(i int) impl.Entry { return put("mine", i, i) }) && apart(rests, func(i int) string { return strings.Repeat("mine", i) })
}

func TestTheListsOfOneStoreShareNoMemory(t *testing.T) {
	check := func(what any, s impl.Store) {
		if !listsApart(s) {
			t.Fatalf("two lists of the result of %v share memory", what)
		}
	}
	eachDone(t, "put take hold free down join", func(s impl.Store, a step, next impl.Store) { check(a, next) })
	for keep := range 6 {
		s, _ := impl.StoreNew(keep)
		other, _ := impl.StoreNew(keep)
		check("StoreNew", s)
		overwriteStore(s)
		if !sameStore(other, bareStore(keep, 0, nil, nil)) {
			t.Fatal("two results of StoreNew share memory")
		}
	}
}
