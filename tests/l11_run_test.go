package tests

import (
	"math"
	"slices"
	"sort"
	"strings"
	"testing"

	"loop.example/temse/impl"
)

// put is an entry of a value.
func put(key string, val, time int) impl.Entry {
	return impl.Entry{Key: key, Val: val, Time: time}
}

// gone is an entry of a key that was deleted.
func gone(key string, time int) impl.Entry {
	return impl.Entry{Key: key, Gone: true, Time: time}
}

// plainEntry says whether an entry is valid.
func plainEntry(e impl.Entry) bool {
	isKey := len(e.Key) <= 5 && strings.Trim(e.Key, "abcd") == ""
	isVal := 0 <= e.Val && e.Val <= 99 && !(e.Gone && e.Val != 0)
	return isKey && isVal && 1 <= e.Time && e.Time <= 999
}

// plainRun says whether entries are a run, by each two of them.
func plainRun(r []impl.Entry) bool {
	for i, e := range r {
		if !plainEntry(e) {
			return false
		}
		for _, later := range r[i+1:] {
			if later.Key < e.Key || later.Key == e.Key && later.Time >= e.Time {
				return false
			}
		}
	}
	return len(r) <= 40
}

// plainAt is the entry of a key that has the greatest time up to one.
func plainAt(r []impl.Entry, k string, time int) (impl.Entry, bool) {
	var found impl.Entry
	for _, e := range r {
		if e.Key == k && e.Time <= time && e.Time > found.Time {
			found = e
		}
	}
	return found, found.Time > 0
}

// inOrder is entries in the order of a run, in a list of their own.
func inOrder(entries []impl.Entry) []impl.Entry {
	sorted := slices.Clone(entries)
	sort.SliceStable(sorted, func(i, j int) bool {
		a, b := sorted[i], sorted[j]
		return a.Key < b.Key || a.Key == b.Key && a.Time > b.Time
	})
	return sorted
}

// plainJoin is all entries of both runs, if they are a run.
func plainJoin(a, b []impl.Entry) ([]impl.Entry, bool) {
	joined := inOrder(slices.Concat(a, b))
	if !plainRun(joined) {
		return nil, false
	}
	return joined, true
}

// plainTrim is the entries that are found at some times or now, at the bottom without the oldest one of a key if it is Gone.
func plainTrim(r []impl.Entry, times []int, bottom bool) []impl.Entry {
	var left []impl.Entry
	for _, e := range r {
		seen := slices.ContainsFunc(append([]int{999}, times...), func(time int) bool {
			found, ok := plainAt(r, e.Key, time)
			return ok && found == e
		})
		if seen {
			left = append(left, e)
		}
	}
	var kept []impl.Entry
	for _, e := range left {
		_, older := plainAt(left, e.Key, e.Time-1)
		if older || !e.Gone || !bottom {
			kept = append(kept, e)
		}
	}
	return kept
}

// plainKeys is the keys of entries, ascending, each once.
func plainKeys(r []impl.Entry) []string {
	var keys []string
	for _, e := range r {
		keys = append(keys, e.Key)
	}
	sort.Strings(keys)
	return slices.Compact(keys)
}

// plainList is what is there from a key to another one at a time.
func plainList(r []impl.Entry, from, to string, time int) []impl.Entry {
	var list []impl.Entry
	for _, k := range plainKeys(r) {
		e, ok := plainAt(r, k, time)
		if ok && !e.Gone && from <= k && k <= to {
			list = append(list, e)
		}
	}
	return list
}

// mixedRun is a run of n entries without a pattern, the same on each run, of keys of the first few letters and times up to a limit.
// There must be room for so many.
func mixedRun(n int, letters uint32, times int, seed uint32) []impl.Entry {
	var r []impl.Entry
	for len(r) < n {
		seed = seed*1664525 + 1013904223
		e := put(mixedKeys(1, letters, seed)[0], int(seed>>8%100), int(seed>>16)%times+1)
		if seed>>28%3 == 0 {
			e = gone(e.Key, e.Time)
		}
		if !slices.ContainsFunc(r, func(o impl.Entry) bool { return o.Key == e.Key && o.Time == e.Time }) {
			r = append(r, e)
		}
	}
	return inOrder(r)
}

// smallRuns is every run of the keys a and ab at three times, each of them put, deleted or left out.
func smallRuns() [][]impl.Entry {
	slots := []impl.Entry{put("a", 7, 5), put("a", 3, 4), put("a", 0, 2), put("ab", 99, 5), put("ab", 3, 4), put("ab", 8, 2)}
	runs := [][]impl.Entry{nil}
	for _, e := range slots {
		var longer [][]impl.Entry
		for _, r := range runs {
			longer = append(longer, r, append(slices.Clone(r), e), append(slices.Clone(r), gone(e.Key, e.Time)))
		}
		runs = longer
	}
	return runs
}

// longRun is a run of n keys, one entry of each.
func longRun(n int) []impl.Entry {
	var r []impl.Entry
	for i, k := range allKeys()[200 : 200+n] {
		r = append(r, put(k, i, i+1))
	}
	return r
}

// deepRun is a run of one key with n entries, every third one Gone.
func deepRun(key string, n int) []impl.Entry {
	var r []impl.Entry
	for i := range n {
		if e := put(key, i, 900-3*i); i%3 == 2 {
			r = append(r, gone(key, e.Time))
		} else {
			r = append(r, e)
		}
	}
	return r
}

// someRuns is runs of every length.
func someRuns() [][]impl.Entry {
	runs := [][]impl.Entry{
		nil, {}, {put("a", 1, 1)}, {gone("a", 1)}, {put("", 0, 1)}, {put("", 99, 999)}, {gone("", 999)}, {put("ddddd", 0, 999)}, {put("aaaaa", 99, 1)},
		{put("a", 1, 2), put("a", 1, 1)}, {put("a", 0, 999), put("a", 0, 1)},
		{gone("a", 5), put("a", 1, 3)}, {put("a", 1, 5), gone("a", 3)}, {gone("a", 5), gone("a", 3)}, {gone("a", 5), gone("a", 3), gone("a", 1)},
		{put("a", 1, 7), gone("a", 5), put("a", 1, 3)}, {gone("a", 7), put("a", 1, 5), gone("a", 3)}, {put("a", 1, 7), gone("a", 5), gone("a", 3)},
		{gone("a", 7), gone("a", 5), put("a", 2, 3)}, {gone("a", 7), gone("b", 7), gone("c", 7)}, {gone("", 2), put("a", 0, 2), gone("aa", 2), put("b", 5, 2)},
		{put("", 1, 3), put("a", 2, 3), put("aa", 3, 3), put("ab", 4, 3), put("b", 5, 3)},
		{put("", 4, 9), gone("", 4), put("aaaaa", 4, 9), gone("aaaaa", 4), put("ddddd", 4, 9), gone("ddddd", 4)},
	}
	for n := range 41 {
		runs = append(runs, longRun(n), deepRun("", n), deepRun("cab", n))
		runs = append(runs, mixedRun(n, 1, 30, uint32(n)), mixedRun(n, 2, 9, uint32(n+100)), mixedRun(n, 4, 999, uint32(n+200)))
	}
	return runs
}

// notEntries is entries that are not valid.
func notEntries() []impl.Entry {
	all := []impl.Entry{
		put("a", -1, 1), put("a", 100, 1), put("a", math.MinInt, 1), put("a", math.MaxInt, 1), put("a", 1, 0), put("a", 1, -1), put("a", 1, 1000),
		put("a", 1, math.MinInt), put("a", 1, math.MaxInt), gone("a", 0), gone("a", -5), gone("a", 1000), put("", 0, 0), {},
		{Key: "a", Val: 1, Gone: true, Time: 1}, {Key: "a", Val: 99, Gone: true, Time: 9}, {Key: "a", Val: -1, Gone: true, Time: 9}, {Key: "", Val: 5, Gone: true, Time: 999},
	}
	for _, k := range notKeys() {
		all = append(all, put(k, 1, 1), gone(k, 999))
	}
	return all
}

// notRuns is lists of entries that are no runs.
func notRuns() [][]impl.Entry {
	runs := [][]impl.Entry{
		{put("a", 1, 1), put("a", 1, 2)}, {gone("a", 1), put("a", 1, 2)}, {put("a", 1, 1), put("a", 1, 1)}, {put("a", 1, 1), put("a", 2, 1)},
		{put("a", 0, 1), gone("a", 1)}, {gone("a", 1), put("a", 0, 1)}, {gone("a", 4), gone("a", 4)}, {put("a", 1, 3), put("a", 1, 2), put("a", 1, 2)},
		{put("a", 1, 3), put("a", 1, 1), put("a", 1, 2)}, {put("a", 1, 3), put("a", 1, 2), put("a", 1, 4)},
		{put("b", 1, 3), put("a", 1, 2)}, {put("b", 1, 3), put("a", 1, 5)}, {put("a", 1, 1), put("", 1, 1)}, {put("aa", 1, 1), put("a", 1, 1)},
		{put("a", 1, 3), put("b", 1, 3), put("a", 1, 2)}, {put("a", 1, 3), put("c", 1, 3), put("b", 1, 2)}, {put("b", 1, 3), put("a", 1, 3), put("c", 1, 3)},
		longRun(41), deepRun("a", 41), longRun(100), slices.Repeat([]impl.Entry{put("a", 1, 1)}, 41),
	}
	for _, e := range notEntries() {
		runs = append(runs, []impl.Entry{e}, inOrder([]impl.Entry{e, put("", 1, 5)}), inOrder([]impl.Entry{e, put("b", 1, 5), gone("ddddd", 2)}))
	}
	for _, r := range [][]impl.Entry{longRun(40), deepRun("a", 40), mixedRun(30, 2, 9, 7)} {
		for i := range r {
			bad := slices.Clone(r)
			bad[i].Val = 100
			same := slices.Clone(r)
			same[i] = r[(i+1)%len(r)]
			runs = append(runs, bad, same)
		}
		back := slices.Clone(r)
		slices.Reverse(back)
		runs = append(runs, back)
	}
	return runs
}

// runTimes is times to ask a run at: at each entry's own time, just ahead of it and just after it, and far below and above all.
func runTimes(r []impl.Entry) []int {
	times := []int{math.MinInt, -1, 0, 1, 2, 500, 998, 999, 1000, math.MaxInt}
	for _, e := range r {
		times = append(times, e.Time-1, e.Time, e.Time+1)
	}
	slices.Sort(times)
	return slices.Compact(times)
}

// runTexts is strings to ask a run for: its keys, their neighbours, and others.
func runTexts(r []impl.Entry) []string {
	texts := []string{"", "a", "b", "ab", "ddddd", "e", "A", "aaaaaa", "\x00", "\xff", "ab "}
	for _, k := range plainKeys(r) {
		texts = append(texts, k, k+"a", k+"\x00", k[:len(k)/2])
	}
	return slices.Compact(slices.Sorted(slices.Values(texts)))
}

// heldTimes is lists of times to trim a run with.
func heldTimes(r []impl.Entry) [][]int {
	lists := [][]int{nil, {}, {0}, {1000}, {math.MinInt, math.MaxInt}, {-1, 0, 1}, {5, 5}, {9, 3, 6, 3}, {999, 1, 500}, {4, 8, 12, 16, 20}}
	times := runTimes(r)
	back := slices.Clone(times)
	slices.Reverse(back)
	lists = append(lists, times, back, slices.Concat(times, times))
	for i := range times {
		lists = append(lists, []int{times[i]}, []int{times[i], times[(i*7+3)%len(times)]}, []int{times[i], times[(i*5+2)%len(times)], times[i], times[(i*11+1)%len(times)]})
	}
	return lists
}

// smallHeld is every list of times from 1 to 6, ascending.
func smallHeld() [][]int {
	lists := [][]int{nil}
	for time := 1; time <= 6; time++ {
		for _, list := range slices.Clone(lists) {
			lists = append(lists, append(slices.Clone(list), time))
		}
	}
	return lists
}

// eachTrim calls a function with runs, and times to trim them with.
func eachTrim(do func(r []impl.Entry, times []int)) {
	for _, r := range someRuns() {
		for _, times := range heldTimes(r) {
			do(r, times)
		}
	}
	for _, r := range smallRuns() {
		for _, times := range smallHeld() {
			do(r, times)
		}
	}
}

// eachList calls a function with runs, and ranges and times to list them with.
func eachList(do func(r []impl.Entry, from, to string, time int)) {
	for i, r := range append(someRuns(), smallRuns()...) {
		texts, times := runTexts(r), runTimes(r)
		for j, from := range texts {
			for n := range 5 {
				do(r, from, texts[(j+n*n)%len(texts)], times[(i+j*3+n)%len(times)])
			}
		}
		for _, time := range times {
			do(r, "", "ddddd", time)
		}
	}
}

// runPairs calls a function with two runs: of which some may be joined, and others not.
func runPairs(do func(a, b []impl.Entry)) {
	small := smallRuns()
	for i, a := range small {
		for n := range 12 {
			do(a, small[(i*5+n*n*13)%len(small)])
		}
	}
	some := someRuns()
	for i, a := range some {
		for n := range 25 {
			do(a, some[(i+n*n*3)%len(some)])
		}
	}
	for seed := range uint32(200) {
		both := mixedRun(int(seed%43), seed%4+1, 99, seed)
		var a, b []impl.Entry
		for i, e := range both {
			if (seed>>(i%7)+uint32(i))%2 == 0 {
				a = append(a, e)
			} else {
				b = append(b, e)
			}
		}
		if len(a) <= 40 && len(b) <= 40 {
			do(a, b)
		}
	}
}

func TestLimitsOfRuns(t *testing.T) {
	if impl.RunVals != 99 || impl.RunTime != 999 || impl.RunMax != 40 {
		t.Error(impl.RunVals, impl.RunTime, impl.RunMax)
	}
}

func TestRunOkTakesRunsOnly(t *testing.T) {
	for _, r := range append(someRuns(), smallRuns()...) {
		if !impl.RunOk(r) || !plainRun(r) {
			t.Errorf("RunOk(%v) is %v", r, impl.RunOk(r))
		}
	}
	for _, r := range notRuns() {
		if impl.RunOk(r) || plainRun(r) {
			t.Errorf("RunOk(%v) is %v", r, impl.RunOk(r))
		}
	}
}

func TestRunOkOfEachThreeEntries(t *testing.T) {
	small := []impl.Entry{
		put("", 1, 2), gone("", 1), put("a", 1, 1), put("a", 2, 1), gone("a", 1), put("a", 1, 2), gone("a", 2), put("aa", 0, 1), put("b", 99, 3), gone("b", 3),
		put("e", 1, 1), put("a", -1, 1), put("a", 1, 0), {Key: "a", Val: 1, Gone: true, Time: 3},
	}
	for _, a := range small {
		for _, b := range small {
			for _, c := range small {
				r := []impl.Entry{a, b, c}
				if ok := impl.RunOk(r); ok != plainRun(r) {
					t.Errorf("RunOk(%v) is %v", r, ok)
				}
			}
		}
	}
}

func TestLimitsOfAnEntryAreInclusive(t *testing.T) {
	for _, c := range []struct {
		e  impl.Entry
		ok bool
	}{
		{put("a", 0, 5), true}, {put("a", 99, 5), true}, {put("a", -1, 5), false}, {put("a", 100, 5), false},
		{put("a", 5, 1), true}, {put("a", 5, 999), true}, {put("a", 5, 0), false}, {put("a", 5, 1000), false},
		{gone("a", 1), true}, {gone("a", 999), true}, {gone("a", 0), false}, {gone("a", 1000), false},
		{put("", 5, 5), true}, {gone("", 5), true}, {put("abcda", 5, 5), true}, {put("abcdab", 5, 5), false}, {put("e", 5, 5), false}, {gone("e", 5), false},
	} {
		if ok := impl.RunOk([]impl.Entry{c.e}); ok != c.ok {
			t.Errorf("RunOk of %v is %v", c.e, ok)
		}
	}
}

func TestADeletedEntryHasNoValue(t *testing.T) {
	for val := -1; val <= 100; val++ {
		r := []impl.Entry{{Key: "a", Val: val, Gone: true, Time: 5}, put("a", 1, 2)}
		if ok := impl.RunOk(r); ok != (val == 0) {
			t.Errorf("RunOk(%v) is %v", r, ok)
		}
	}
}

func TestRunMaxIsInclusive(t *testing.T) {
	for _, r := range [][]impl.Entry{longRun(41), deepRun("abc", 41), mixedRun(41, 4, 999, 5)} {
		most, last := r[:40], r[40]
		if !impl.RunOk(most) || impl.RunOk(r) {
			t.Error(impl.RunOk(most), impl.RunOk(r))
		}
		if e, ok := impl.RunAt(most, most[39].Key, most[39].Time); !ok || e != most[39] {
			t.Error("the last of 40 entries:", e, ok)
		}
		if e, ok := impl.RunAt(r, last.Key, last.Time); ok || e != (impl.Entry{}) {
			t.Error("the last of 41 entries:", e, ok)
		}
		if list := impl.RunTrim(most, runTimes(most), false); !slices.Equal(list, most) {
			t.Errorf("RunTrim(%v) is %v", most, list)
		}
		if len(impl.RunTrim(r, nil, false)) != 0 || len(impl.RunKeys(r)) != 0 || len(impl.RunList(r, "", "ddddd", 999)) != 0 {
			t.Errorf("a function answers for %v", r)
		}
		for n := range 41 {
			if joined, ok := impl.RunJoin(r[:n], r[n:40]); !ok || !slices.Equal(joined, most) {
				t.Errorf("RunJoin of %d and %d is %v, %v", n, 40-n, joined, ok)
			}
			if joined, ok := impl.RunJoin(r[:n], r[n:]); ok || len(joined) != 0 {
				t.Errorf("RunJoin of %d and %d is %v, %v", n, 41-n, joined, ok)
			}
		}
		if joined, ok := impl.RunJoin(most, most[:1]); ok || len(joined) != 0 {
			t.Error(joined, ok)
		}
	}
}

// Promise 28.
func TestARunCanBeSplitAnywhereAndJoined(t *testing.T) {
	for _, r := range append(someRuns(), smallRuns()...) {
		for n := range len(r) + 1 {
			if !impl.RunOk(r[:n]) || !impl.RunOk(r[n:]) {
				t.Fatalf("%v, split at %d: %v, %v", r, n, impl.RunOk(r[:n]), impl.RunOk(r[n:]))
			}
			for _, parts := range [][2][]impl.Entry{{r[:n], r[n:]}, {r[n:], r[:n]}} {
				if joined, ok := impl.RunJoin(parts[0], parts[1]); !ok || !slices.Equal(joined, r) {
					t.Fatalf("RunJoin(%v, %v) is %v, %v", parts[0], parts[1], joined, ok)
				}
			}
		}
	}
}

// Promise 29.
func TestRunAtIsTheNewestEntryThatIsNotLater(t *testing.T) {
	for _, r := range append(someRuns(), smallRuns()...) {
		times := runTimes(r)
		for _, k := range runTexts(r) {
			for _, time := range times {
				want, wantOk := plainAt(r, k, time)
				if e, ok := impl.RunAt(r, k, time); e != want || ok != wantOk {
					t.Fatalf("RunAt(%v, %q, %d) is %v, %v, not %v, %v", r, k, time, e, ok, want, wantOk)
				}
			}
		}
	}
}

func TestRunAtAtItsEdges(t *testing.T) {
	r := []impl.Entry{put("", 0, 1), put("a", 3, 9), gone("a", 5), put("a", 1, 2), gone("b", 4), put("bc", 99, 999)}
	none := impl.Entry{}
	for _, c := range []struct {
		k    string
		time int
		want impl.Entry
		ok   bool
	}{
		{"a", 1, none, false}, {"a", 2, r[3], true}, {"a", 3, r[3], true}, {"a", 4, r[3], true}, {"a", 5, r[2], true}, {"a", 8, r[2], true},
		{"a", 9, r[1], true}, {"a", 10, r[1], true}, {"a", math.MaxInt, r[1], true}, {"a", 0, none, false}, {"a", math.MinInt, none, false},
		{"", 0, none, false}, {"", 1, r[0], true}, {"", 2, r[0], true}, {"b", 3, none, false}, {"b", 4, r[4], true}, {"b", 999, r[4], true},
		{"bc", 998, none, false}, {"bc", 999, r[5], true}, {"bc", 1000, r[5], true},
		{"c", 999, none, false}, {"aa", 999, none, false}, {"e", 999, none, false}, {"a ", 999, none, false}, {"bcbcbc", 999, none, false},
	} {
		if e, ok := impl.RunAt(r, c.k, c.time); e != c.want || ok != c.ok {
			t.Errorf("RunAt(r, %q, %d) is %v, %v", c.k, c.time, e, ok)
		}
	}
	for _, empty := range [][]impl.Entry{nil, {}} {
		for _, k := range []string{"", "a", "e"} {
			if e, ok := impl.RunAt(empty, k, 999); ok || e != none {
				t.Errorf("RunAt of no entries is %v, %v", e, ok)
			}
		}
	}
}

// Promise 30.
func TestRunJoinHasAllEntriesOfBothInEitherOrder(t *testing.T) {
	done, refusals := 0, 0
	runPairs(func(a, b []impl.Entry) {
		want, wantOk := plainJoin(a, b)
		for _, both := range [][2][]impl.Entry{{a, b}, {b, a}} {
			if joined, ok := impl.RunJoin(both[0], both[1]); ok != wantOk || !slices.Equal(joined, want) {
				t.Fatalf("RunJoin(%v, %v) is %v, %v, not %v, %v", both[0], both[1], joined, ok, want, wantOk)
			}
		}
		if wantOk {
			done++
		} else {
			refusals++
		}
	})
	if done < 1000 || refusals < 1000 {
		t.Error("too few pairs:", done, refusals)
	}
}

func TestRunJoinRefusesTwoEntriesOfOneTime(t *testing.T) {
	r := []impl.Entry{put("a", 1, 9), put("a", 2, 5), gone("b", 4)}
	for _, other := range [][]impl.Entry{
		r, r[:1], r[1:2], r[2:], {put("a", 1, 5)}, {gone("a", 5)}, {put("b", 0, 4)}, {gone("b", 4)}, {put("a", 7, 9)},
		{put("", 1, 1), put("a", 1, 9)}, {put("a", 4, 7), put("a", 2, 5), put("c", 1, 1)}, {put("aa", 1, 1), put("b", 1, 5), put("b", 1, 4)},
	} {
		for _, both := range [][2][]impl.Entry{{r, other}, {other, r}} {
			if joined, ok := impl.RunJoin(both[0], both[1]); ok || len(joined) != 0 {
				t.Errorf("RunJoin(%v, %v) is %v, %v", both[0], both[1], joined, ok)
			}
		}
	}
	for _, other := range [][]impl.Entry{{put("aa", 1, 9)}, {put("", 1, 9)}, {gone("c", 4)}, {put("a", 1, 6)}, {put("b", 0, 5)}, {gone("b", 3)}} {
		want, _ := plainJoin(r, other)
		if joined, ok := impl.RunJoin(r, other); !ok || !slices.Equal(joined, want) || len(want) != 4 {
			t.Errorf("RunJoin(%v, %v) is %v, %v", r, other, joined, ok)
		}
	}
}

func TestRunJoinWithTheEmptyRun(t *testing.T) {
	for _, r := range append(someRuns(), smallRuns()...) {
		for _, empty := range [][]impl.Entry{nil, {}} {
			for _, both := range [][2][]impl.Entry{{r, empty}, {empty, r}} {
				if joined, ok := impl.RunJoin(both[0], both[1]); !ok || !slices.Equal(joined, r) {
					t.Fatalf("RunJoin(%v, %v) is %v, %v", both[0], both[1], joined, ok)
				}
			}
		}
	}
}

// Promise 31.
func TestRunAtOfAJoinedRunIsTheNewerOfBoth(t *testing.T) {
	runPairs(func(a, b []impl.Entry) {
		joined, ok := impl.RunJoin(a, b)
		if !ok {
			return
		}
		times := runTimes(joined)
		for i, k := range runTexts(joined) {
			for n := range min(len(times), 9) {
				time := times[(i+n*3)%len(times)]
				newer, newerOk := impl.RunAt(a, k, time)
				if other, ok := impl.RunAt(b, k, time); ok && other.Time > newer.Time {
					newer, newerOk = other, ok
				}
				if e, ok := impl.RunAt(joined, k, time); e != newer || ok != newerOk {
					t.Fatalf("RunAt(%v, %q, %d) is %v, %v, not %v, %v", joined, k, time, e, ok, newer, newerOk)
				}
			}
		}
	})
}

// joinThree is three runs as one, the first two or the last two of them first.
func joinThree(a, b, c []impl.Entry, firstTwo bool) ([]impl.Entry, bool) {
	if firstTwo {
		ab, ok := impl.RunJoin(a, b)
		if !ok {
			return nil, false
		}
		return impl.RunJoin(ab, c)
	}
	bc, ok := impl.RunJoin(b, c)
	if !ok {
		return nil, false
	}
	return impl.RunJoin(a, bc)
}

// Promise 32.
func TestRunJoinIsAssociative(t *testing.T) {
	others := [][]impl.Entry{nil, {put("b", 1, 1)}, {gone("a", 3)}, {put("a", 1, 5)}, {put("ab", 5, 900), gone("ab", 3)}, longRun(20), mixedRun(9, 2, 900, 4)}
	done, refusals := 0, 0
	runPairs(func(a, b []impl.Entry) {
		for _, c := range others {
			one, oneOk := joinThree(a, b, c, true)
			two, twoOk := joinThree(a, b, c, false)
			if oneOk != twoOk || !slices.Equal(one, two) {
				t.Fatalf("%v, %v and %v are joined to %v, %v or to %v, %v", a, b, c, one, oneOk, two, twoOk)
			}
			if want, ok := plainJoin(slices.Concat(a, b), c); ok != oneOk || !slices.Equal(one, want) {
				t.Fatalf("%v, %v and %v are joined to %v, %v", a, b, c, one, oneOk)
			}
			if oneOk {
				done++
			} else {
				refusals++
			}
		}
	})
	if done < 1000 || refusals < 1000 {
		t.Error("too few runs:", done, refusals)
	}
}

func TestRunTrimRemovesWhatIsInvisible(t *testing.T) {
	eachTrim(func(r []impl.Entry, times []int) {
		for _, bottom := range []bool{false, true} {
			want := plainTrim(r, times, bottom)
			if left := impl.RunTrim(r, times, bottom); !slices.Equal(left, want) {
				t.Fatalf("RunTrim(%v, %v, %v) is %v, not %v", r, times, bottom, left, want)
			}
		}
	})
}

func TestRunTrimAtItsEdges(t *testing.T) {
	r := []impl.Entry{put("a", 3, 9), gone("a", 5), put("a", 1, 2), gone("b", 4), put("c", 1, 8), gone("c", 6), gone("c", 3)}
	for _, c := range []struct {
		times         []int
		above, bottom []int
	}{
		{nil, []int{0, 3, 4}, []int{0, 4}}, {[]int{}, []int{0, 3, 4}, []int{0, 4}}, {[]int{1}, []int{0, 3, 4}, []int{0, 4}}, {[]int{10, 9}, []int{0, 3, 4}, []int{0, 4}},
		{[]int{2}, []int{0, 2, 3, 4}, []int{0, 2, 4}}, {[]int{3}, []int{0, 2, 3, 4, 6}, []int{0, 2, 4}}, {[]int{4}, []int{0, 2, 3, 4, 6}, []int{0, 2, 4}},
		{[]int{5}, []int{0, 1, 3, 4, 6}, []int{0, 4}}, {[]int{8}, []int{0, 1, 3, 4}, []int{0, 4}}, {[]int{6}, []int{0, 1, 3, 4, 5}, []int{0, 4}},
		{[]int{4, 6}, []int{0, 1, 2, 3, 4, 5, 6}, []int{0, 1, 2, 4, 5}}, {[]int{6, 4, 6, 4}, []int{0, 1, 2, 3, 4, 5, 6}, []int{0, 1, 2, 4, 5}},
		{[]int{math.MaxInt, 6, math.MinInt}, []int{0, 1, 3, 4, 5}, []int{0, 4}},
	} {
		for _, bottom := range []bool{false, true} {
			places := c.above
			if bottom {
				places = c.bottom
			}
			var want []impl.Entry
			for _, at := range places {
				want = append(want, r[at])
			}
			if left := impl.RunTrim(r, c.times, bottom); !slices.Equal(left, want) {
				t.Errorf("RunTrim(r, %v, %v) is %v, not %v", c.times, bottom, left, want)
			}
		}
	}
	for _, empty := range [][]impl.Entry{nil, {}} {
		if len(impl.RunTrim(empty, nil, false)) != 0 || len(impl.RunTrim(empty, []int{1}, true)) != 0 {
			t.Error("RunTrim of no entries has some")
		}
	}
}

// The document's "(only that one)": of two deletions at the end, the upper one stays.
func TestRunTrimAtTheBottomRemovesOneDeletionOfAKey(t *testing.T) {
	for _, c := range []struct {
		r     []impl.Entry
		times []int
		want  []impl.Entry
	}{
		{[]impl.Entry{gone("a", 5)}, nil, nil},
		{[]impl.Entry{gone("a", 5), gone("a", 3)}, nil, nil},
		{[]impl.Entry{gone("a", 5), gone("a", 3)}, []int{3}, []impl.Entry{gone("a", 5)}},
		{[]impl.Entry{gone("a", 5), gone("a", 3), gone("a", 1)}, []int{4, 2}, []impl.Entry{gone("a", 5), gone("a", 3)}},
		{[]impl.Entry{gone("a", 5), gone("a", 3), gone("a", 1)}, []int{1}, []impl.Entry{gone("a", 5)}},
		{[]impl.Entry{put("a", 1, 7), gone("a", 5), gone("a", 3)}, []int{6, 3}, []impl.Entry{put("a", 1, 7), gone("a", 5)}},
		{[]impl.Entry{gone("a", 7), put("a", 1, 5)}, nil, nil},
		{[]impl.Entry{gone("a", 7), put("a", 1, 5)}, []int{5}, []impl.Entry{gone("a", 7), put("a", 1, 5)}},
		{[]impl.Entry{gone("a", 5), gone("aa", 5), gone("aa", 3), gone("b", 1)}, []int{3}, []impl.Entry{gone("aa", 5)}},
	} {
		if left := impl.RunTrim(c.r, c.times, true); !slices.Equal(left, c.want) {
			t.Errorf("RunTrim(%v, %v, true) is %v", c.r, c.times, left)
		}
	}
}

// Promise 33.
func TestRunTrimAtTheBottomPreservesWhatIsPresent(t *testing.T) {
	eachTrim(func(r []impl.Entry, times []int) {
		left := impl.RunTrim(r, times, true)
		for _, time := range append([]int{999, math.MaxInt}, times...) {
			one, other := impl.RunList(r, "", "ddddd", time), impl.RunList(left, "", "ddddd", time)
			if !slices.Equal(one, other) {
				t.Fatalf("at %d, %v has %v, and trimmed with %v %v", time, r, one, times, other)
			}
		}
	})
}

// Promise 34.
func TestRunTrimAboveTheBottomPreservesRunAtAndAllKeys(t *testing.T) {
	eachTrim(func(r []impl.Entry, times []int) {
		left := impl.RunTrim(r, times, false)
		keys := impl.RunKeys(r)
		if !slices.Equal(impl.RunKeys(left), keys) {
			t.Fatalf("%v has the keys %q, and trimmed with %v %q", r, keys, times, impl.RunKeys(left))
		}
		for _, k := range keys {
			for _, time := range append([]int{999}, times...) {
				one, oneOk := impl.RunAt(r, k, time)
				other, otherOk := impl.RunAt(left, k, time)
				if one != other || oneOk != otherOk {
					t.Fatalf("RunAt(%v, %q, %d) is %v, %v, and trimmed with %v %v, %v", r, k, time, one, oneOk, times, other, otherOk)
				}
			}
		}
	})
}

// lastTwoGone says whether a key's last two entries of a run are Gone.
func lastTwoGone(r []impl.Entry) bool {
	for i, e := range r {
		last := i+1 == len(r) || r[i+1].Key != e.Key
		if last && i > 0 && r[i-1].Key == e.Key && e.Gone && r[i-1].Gone {
			return true
		}
	}
	return false
}

// Promise 35: at the bottom, it holds where no second deletion gets to the end of a key, since only one is removed at once.
func TestRunTrimIsIdempotent(t *testing.T) {
	again, more := 0, 0
	eachTrim(func(r []impl.Entry, times []int) {
		above := impl.RunTrim(r, times, false)
		if twice := impl.RunTrim(above, times, false); !slices.Equal(twice, above) {
			t.Fatalf("RunTrim(%v, %v, false) is %v, then %v", r, times, above, twice)
		}
		bottom := impl.RunTrim(r, times, true)
		if same := impl.RunTrim(above, times, true); !slices.Equal(same, bottom) {
			t.Fatalf("RunTrim(%v, %v, true) is %v, but if it is trimmed above the bottom first, %v", r, times, bottom, same)
		}
		twice := impl.RunTrim(bottom, times, true)
		if lastTwoGone(above) {
			more++
		} else if again++; !slices.Equal(twice, bottom) {
			t.Fatalf("RunTrim(%v, %v, true) is %v, then %v", r, times, bottom, twice)
		}
		if want := plainTrim(bottom, times, true); !slices.Equal(twice, want) {
			t.Fatalf("RunTrim(%v, %v, true) is %v, not %v", bottom, times, twice, want)
		}
	})
	if again < 1000 || more < 1000 {
		t.Error("too few runs:", again, more)
	}
}

// Promise 35.
func TestRunTrimKeepsAtMostOneEntryForEachHeldTimeAndOneMore(t *testing.T) {
	eachTrim(func(r []impl.Entry, times []int) {
		held := len(slices.Compact(slices.Sorted(slices.Values(times))))
		for _, bottom := range []bool{false, true} {
			left := impl.RunTrim(r, times, bottom)
			for _, k := range impl.RunKeys(left) {
				n := 0
				for _, e := range left {
					if e.Key == k {
						n++
					}
				}
				if n > held+1 {
					t.Fatalf("RunTrim(%v, %v, %v) has %d entries of %q", r, times, bottom, n, k)
				}
			}
			if !impl.RunOk(left) {
				t.Fatalf("RunTrim(%v, %v, %v) is no run: %v", r, times, bottom, left)
			}
		}
	})
}

// Promise 36.
func TestRunKeysHasExactlyTheKeysOfItsEntries(t *testing.T) {
	for _, r := range append(someRuns(), smallRuns()...) {
		keys := impl.RunKeys(r)
		if want := plainKeys(r); !slices.Equal(keys, want) {
			t.Errorf("RunKeys(%v) is %q, not %q", r, keys, want)
		}
		for i := 1; i < len(keys); i++ {
			if keys[i-1] >= keys[i] {
				t.Errorf("RunKeys(%v) has %q ahead of %q", r, keys[i-1], keys[i])
			}
		}
	}
	if keys := impl.RunKeys(longRun(40)); len(keys) != 40 {
		t.Errorf("RunKeys of 40 keys has %d", len(keys))
	}
}

// Promise 37.
func TestRunListIsRunAtOfEachKeyInTheRange(t *testing.T) {
	eachList(func(r []impl.Entry, from, to string, time int) {
		list := impl.RunList(r, from, to, time)
		if want := plainList(r, from, to, time); !slices.Equal(list, want) {
			t.Fatalf("RunList(%v, %q, %q, %d) is %v, not %v", r, from, to, time, list, want)
		}
		for _, k := range plainKeys(r) {
			e, ok := impl.RunAt(r, k, time)
			if want := ok && !e.Gone && from <= k && k <= to; slices.Contains(list, e) != want {
				t.Fatalf("RunList(%v, %q, %q, %d) is %v", r, from, to, time, list)
			}
		}
	})
}

func TestRunListAtItsEdges(t *testing.T) {
	r := []impl.Entry{put("", 0, 1), put("a", 3, 9), gone("a", 5), put("a", 1, 2), gone("b", 4), put("bc", 99, 999), put("d", 2, 2)}
	for _, c := range []struct {
		from, to string
		time     int
		want     []int
	}{
		{"", "ddddd", 999, []int{0, 1, 5, 6}}, {"", "ddddd", 998, []int{0, 1, 6}}, {"", "ddddd", 9, []int{0, 1, 6}}, {"", "ddddd", 8, []int{0, 6}},
		{"", "ddddd", 5, []int{0, 6}}, {"", "ddddd", 4, []int{0, 3, 6}}, {"", "ddddd", 2, []int{0, 3, 6}}, {"", "ddddd", 1, []int{0}}, {"", "ddddd", 0, nil},
		{"", "ddddd", -1, nil}, {"", "ddddd", math.MinInt, nil}, {"", "ddddd", math.MaxInt, []int{0, 1, 5, 6}},
		{"a", "a", 999, []int{1}}, {"a", "a", 5, nil}, {"a", "a", 4, []int{3}}, {"", "", 999, []int{0}}, {"b", "b", 999, nil}, {"c", "c", 999, nil},
		{"a", "d", 999, []int{1, 5, 6}}, {"a", "bc", 999, []int{1, 5}}, {"aa", "bbddd", 999, nil}, {"aa", "c", 999, []int{5}}, {"da", "ddddd", 999, nil},
		{"d", "a", 999, nil}, {"a", "", 999, nil}, {"bc", "bb", 999, nil}, {"e", "", 999, nil},
		{"", "e", 999, []int{0, 1, 5, 6}}, {"", "\xff", 999, []int{0, 1, 5, 6}}, {"A", "Z", 999, nil}, {"A", "e", 999, []int{1, 5, 6}}, {"a\x00", "c!", 999, []int{5}},
		{"\x00", "aaaaaaa", 999, []int{1}}, {"bc bc", "z", 999, []int{6}}, {"e", "f", 999, nil}, {"e", "e", 999, nil},
	} {
		var want []impl.Entry
		for _, at := range c.want {
			want = append(want, r[at])
		}
		if list := impl.RunList(r, c.from, c.to, c.time); !slices.Equal(list, want) {
			t.Errorf("RunList(r, %q, %q, %d) is %v, not %v", c.from, c.to, c.time, list, want)
		}
	}
	for _, empty := range [][]impl.Entry{nil, {}} {
		if list := impl.RunList(empty, "", "ddddd", 999); len(list) != 0 {
			t.Error("RunList of no entries has some:", list)
		}
	}
}

// Promise 38.
func TestRunListCanBeSplitAtAKey(t *testing.T) {
	all := allKeys()
	eachList(func(r []impl.Entry, from, to string, time int) {
		list := impl.RunList(r, from, to, time)
		for _, at := range plainKeys(r) {
			place, _ := slices.BinarySearch(all, at)
			if at < from || at >= to || place+1 == len(all) {
				continue
			}
			one, other := impl.RunList(r, from, at, time), impl.RunList(r, all[place+1], to, time)
			if !slices.Equal(slices.Concat(one, other), list) {
				t.Fatalf("RunList(%v, %q, %q, %d) is %v, and split at %q %v and %v", r, from, to, time, list, at, one, other)
			}
		}
	})
}

// Promise 39.
func TestRunAtALaterTimeIsNotOlder(t *testing.T) {
	for _, r := range append(someRuns(), smallRuns()...) {
		for _, k := range impl.RunKeys(r) {
			was, wasOk := impl.Entry{}, false
			for _, time := range runTimes(r) {
				e, ok := impl.RunAt(r, k, time)
				if wasOk && !ok || e.Time < was.Time {
					t.Fatalf("RunAt(%v, %q, %d) is %v, %v, and earlier %v", r, k, time, e, ok, was)
				}
				was, wasOk = e, ok
			}
		}
		for _, e := range r {
			if found, ok := impl.RunAt(r, e.Key, e.Time); !ok || found != e {
				t.Fatalf("RunAt(%v, %q, %d) is %v, %v", r, e.Key, e.Time, found, ok)
			}
		}
	}
}

// Promise 40.
func TestRunListHasNothingLaterAndNothingGone(t *testing.T) {
	eachList(func(r []impl.Entry, from, to string, time int) {
		list := impl.RunList(r, from, to, time)
		for _, e := range list {
			if e.Gone || e.Time > time {
				t.Fatalf("RunList(%v, %q, %q, %d) has %v", r, from, to, time, e)
			}
		}
		if again := impl.RunList(list, from, to, time); !slices.Equal(again, list) || !impl.RunOk(list) {
			t.Fatalf("RunList(%v, %q, %q, %d) is %v", list, from, to, time, again)
		}
	})
}

func TestRunFunctionsOfNoRun(t *testing.T) {
	for _, r := range notRuns() {
		for _, e := range r {
			if found, ok := impl.RunAt(r, e.Key, 999); ok || found != (impl.Entry{}) {
				t.Fatalf("RunAt(%v, %q, 999) is %v, %v", r, e.Key, found, ok)
			}
		}
		for _, other := range [][]impl.Entry{nil, {put("ddda", 1, 1)}, r} {
			for _, both := range [][2][]impl.Entry{{r, other}, {other, r}} {
				if joined, ok := impl.RunJoin(both[0], both[1]); ok || len(joined) != 0 {
					t.Fatalf("RunJoin(%v, %v) is %v, %v", both[0], both[1], joined, ok)
				}
			}
		}
		for _, times := range [][]int{nil, {1, 2, 3, 999}} {
			if len(impl.RunTrim(r, times, false)) != 0 || len(impl.RunTrim(r, times, true)) != 0 {
				t.Fatalf("RunTrim(%v, %v) is not empty", r, times)
			}
		}
		if keys := impl.RunKeys(r); len(keys) != 0 {
			t.Fatalf("RunKeys(%v) is %q", r, keys)
		}
		if list := impl.RunList(r, "", "\xff", 999); len(list) != 0 {
			t.Fatalf("RunList(%v) is %v", r, list)
		}
	}
}

// mine is an entry that no test run has.
var mine = put("mine", -7, -7)

func TestRunFunctionsLeaveTheirListsAlone(t *testing.T) {
	for i, r := range slices.Concat(someRuns(), smallRuns(), notRuns()) {
		given, room := roomy(r, put("spare", 1, 1), gone("room", 2), put("b", 1, 1), put("a", 1, 1))
		was := slices.Clone(room)
		other, otherRoom := roomy([]impl.Entry{put("b", 1, 700), put("dc", 1, 1)}, put("spare", 1, 1), gone("room", 2))
		otherWas := slices.Clone(otherRoom)
		times, timesRoom := roomy([]int{9, i % 7, 300, i % 7}, 5, 4, 3)
		timesWas := slices.Clone(timesRoom)

		impl.RunOk(given)
		impl.RunAt(given, "a", 4)
		overwrite(impl.RunKeys(given), "mine")
		joined, _ := impl.RunJoin(given, other)
		overwrite(joined, mine)
		joined, _ = impl.RunJoin(other, given)
		overwrite(joined, mine)
		joined, _ = impl.RunJoin(given, nil)
		overwrite(joined, mine)
		joined, _ = impl.RunJoin(nil, given)
		overwrite(joined, mine)
		overwrite(impl.RunTrim(given, times, false), mine)
		overwrite(impl.RunTrim(given, times, true), mine)
		overwrite(impl.RunTrim(given, runTimes(r), false), mine)
		overwrite(impl.RunTrim(given, runTimes(r), true), mine)
		overwrite(impl.RunList(given, "", "ddddd", 999), mine)
		if !slices.Equal(room, was) || !slices.Equal(otherRoom, otherWas) || !slices.Equal(timesRoom, timesWas) {
			t.Fatalf("a function of %v changes or shares memory", r)
		}
	}
}

func TestRunFunctionsKeepNoState(t *testing.T) {
	for _, r := range append(someRuns(), smallRuns()...) {
		list, left, keys := impl.RunList(r, "", "ddddd", 999), impl.RunTrim(r, []int{4}, true), impl.RunKeys(r)
		joined, _ := impl.RunJoin(r, nil)
		overwrite(impl.RunList(r, "", "ddddd", 999), mine)
		overwrite(impl.RunTrim(r, []int{4}, true), mine)
		overwrite(impl.RunKeys(r), "mine")
		again, _ := impl.RunJoin(r, nil)
		overwrite(again, mine)
		if !slices.Equal(list, plainList(r, "", "ddddd", 999)) || !slices.Equal(left, plainTrim(r, []int{4}, true)) || !slices.Equal(keys, plainKeys(r)) || !slices.Equal(joined, r) {
			t.Fatalf("two results of %v share memory", r)
		}
	}
}
