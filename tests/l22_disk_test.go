package tests

import (
	"fmt"
	"math"
	"math/big"
	"reflect"
	"regexp"
	"slices"
	"strconv"
	"strings"
	"sync"
	"testing"

	"loop.example/temse/impl"
)

// plainHeader is the text of a header with a number, a store, and the blocks of its runs, sealed rightly, whatever it describes.
func plainHeader(number any, s impl.Store, blocks ...int) string {
	text := fmt.Sprintf("%v,%d,%d", number, s.Keep, s.Time)
	for _, n := range blocks {
		text += fmt.Sprintf(",%d", n)
	}
	text += "/"
	for _, time := range s.Times {
		text += fmt.Sprintf("%d,", time)
	}
	return plainSeal(text)
}

// saved is a store as it stands on a disk: the block of its header, its number, and the blocks of its runs.
type saved struct {
	at     int
	number *big.Int
	blocks []int
	store  impl.Store
}

// headerForm is the form of a header; its numbers have neither signs nor leading zeros.
var headerForm = regexp.MustCompile(strings.ReplaceAll(`^N,(N),(N),(N,N,N,N)/((?:N,)*)!\d+$`, "N", `(?:0|[1-9]\d*)`))

// plainInts is numbers that are separated by commas.
func plainInts(text string) ([]int, bool) {
	var numbers []int
	for _, word := range strings.FieldsFunc(text, func(c rune) bool { return c == ',' }) {
		n, err := strconv.Atoi(word)
		if err != nil {
			return nil, false
		}
		numbers = append(numbers, n)
	}
	return numbers, true
}

// plainSaved is what the header in a block describes, if it is valid.
func plainSaved(disk []string, at int) (saved, bool) {
	form := headerForm.FindStringSubmatch(disk[at])
	body, _, _ := strings.Cut(disk[at], "!")
	if form == nil || disk[at] != plainSeal(body) {
		return saved{}, false
	}
	number, _, _ := strings.Cut(body, ",")
	x := saved{at: at, number: new(big.Int)}
	x.number.SetString(number, 10)
	fields, fieldsOk := plainInts(form[1] + "," + form[2])
	blocks, blocksOk := plainInts(form[3])
	times, timesOk := plainInts(form[4])
	if !fieldsOk || !blocksOk || !timesOk {
		return saved{}, false
	}
	var runs [][]impl.Entry
	for _, n := range blocks {
		if n < 2 || n > 9 {
			return saved{}, false
		}
		run, ok := plainRead(disk[n])
		if !ok {
			return saved{}, false
		}
		runs = append(runs, run)
	}
	if fields[0] > 5 {
		return saved{}, false
	}
	x.blocks, x.store = blocks, bareStore(fields[0], fields[1], times, runs[0], runs[1:]...)
	return x, plainStore(x.store)
}

// plainCurrent is what is saved on a disk last.
func plainCurrent(disk []string) (saved, bool) {
	zero, zeroOk := plainSaved(disk, 0)
	one, oneOk := plainSaved(disk, 1)
	if oneOk && (!zeroOk || one.number.Cmp(zero.number) >= 0) {
		return one, true
	}
	return zero, zeroOk
}

// plainUsed is which blocks a disk needs.
func plainUsed(disk []string) []bool {
	used := make([]bool, 10)
	if current, ok := plainCurrent(disk); ok {
		for _, n := range append(current.blocks, current.at) {
			used[n] = true
		}
	}
	return used
}

// plainSave is the writes that save a store, as the document says; a valid store and a disk always have room for it.
func plainSave(disk []string, s impl.Store) ([]impl.Move, bool) {
	if len(disk) != 10 || !plainStore(s) {
		return nil, false
	}
	current, ok := plainCurrent(disk)
	number, target := big.NewInt(1), 0
	if ok {
		number.Add(current.number, number)
		target = 1 - current.at
	}
	if number.Cmp(big.NewInt(9999)) > 0 {
		return nil, false
	}
	var moves []impl.Move
	for at := range 2 {
		if !ok || at != current.at {
			moves = append(moves, impl.Move{At: at})
		}
	}
	var blocks []int
	for n, used := range plainUsed(disk) {
		if n >= 2 && !used && len(blocks) < 4 {
			moves = append(moves, impl.Move{At: n, Text: plainBlock(runsOf(s)[len(blocks)])})
			blocks = append(blocks, n)
		}
	}
	return append(moves, impl.Move{At: target, Text: plainHeader(number, s, blocks...)}), true
}

// plainWritten is a list of blocks after writes, all of them whole but for the last one.
func plainWritten(disk []string, moves []impl.Move, bytes int) []string {
	disk = slices.Clone(disk)
	for i, m := range moves {
		for n := range disk {
			if n != m.At {
				continue
			}
			disk[n] = ""
			for j := range len(m.Text) {
				if i < len(moves)-1 || j < bytes {
					disk[n] += m.Text[j : j+1]
				}
			}
		}
	}
	return disk
}

// plainAfter is a disk on which some stores have been saved, one after the other.
func plainAfter(disk []string, stores ...impl.Store) []string {
	for _, s := range stores {
		if moves, ok := plainSave(disk, s); ok {
			disk = plainWritten(disk, moves, math.MaxInt)
		}
	}
	return disk
}

// newDisk is ten empty blocks.
func newDisk() []string {
	return make([]string, 10)
}

// withBlock is a disk with another text in a block.
func withBlock(disk []string, at int, text string) []string {
	disk = slices.Clone(disk)
	disk[at] = text
	return disk
}

// allStores is valid stores of all kinds, also such as no operation gives.
func allStores() []impl.Store {
	return slices.Concat(someStores(), laterStores(), []impl.Store{longestStore()})
}

// longestStore is a store whose runs have as many entries as can be, each as long as can be.
func longestStore() impl.Store {
	long := func(n, from int) []impl.Entry {
		var r []impl.Entry
		for i, k := range slices.DeleteFunc(allKeys(), func(k string) bool { return len(k) < 5 })[from : from+n] {
			r = append(r, put(k, 99-i, 999-from-i))
		}
		return r
	}
	return bareStore(5, 999, []int{997, 998, 999}, long(4, 0), long(8, 4), long(16, 12), long(24, 28))
}

// fewStores is a few stores, the emptiest and the fullest among them. They are made once; nobody changes them.
var fewStores = sync.OnceValue(func() []impl.Store {
	return append([]impl.Store{bareStore(0, 0, nil, nil), some(), fullStore(2), deepStore(3), longestStore(), laterStores()[2]}, fewer(someStores(), 10)...)
})

// anyBlocks is texts that a block may hold, runs and headers among them; no header among them is valid on any disk. They are made once; nobody changes them.
var anyBlocks = sync.OnceValue(func() []string {
	texts := []string{"", "!", "!7", "!8", "a", "\x00", "\xff\xfe", "é", " ", "0", "1", strings.Repeat("x", 1000), strings.Repeat(",", 500), "1,1,0,2,3,4,5/", "1,1,0,2,3,4,5/!", plainSeal("/"), plainSeal(",,,,,,/"), plainSeal(",,,,,,/,")}
	texts = append(texts, plainBlock([]impl.Entry{put("a", 1, 1)}), plainBlock([]impl.Entry{gone("ab", 999)}), plainBlock(longRun(4)), plainBlock(longRun(8)), plainBlock(deepRun("", 20)))
	return append(texts, plainHeader(1, bareStore(1, 0, nil, nil), 10, 11, 12, 13), plainHeader(99, some(), 0, 1, 2, 3), plainHeader(5, bareStore(6, 0, nil, nil), 2, 3, 4, 5), plainHeader(7, bareStore(1, 1000, nil, nil), 6, 7, 8, 9))
})

// strayDisks is disks of any blocks, without a current store.
func strayDisks() [][]string {
	disks := [][]string{newDisk()}
	for _, text := range anyBlocks() {
		disks = append(disks, slices.Repeat([]string{text}, 10))
	}
	for seed := range uint32(20) {
		var disk []string
		for range 10 {
			seed = seed*1664525 + 1013904223
			disk = append(disk, anyBlocks()[int(seed>>8)%len(anyBlocks())])
		}
		disks = append(disks, disk)
	}
	return disks
}

// trapped is a disk with headers ahead of the current one, in each block that is not its own. They are not valid, but become so when the runs of a store are saved.
func trapped(disk []string, s impl.Store) []string {
	disk = slices.Clone(disk)
	current, ok := plainCurrent(disk)
	var free []int
	for n, used := range plainUsed(disk) {
		if n >= 2 && !used {
			disk[n] = "no run"
			free = append(free, n)
		}
	}
	for at := range 2 {
		if !ok || at != current.at {
			disk[at] = plainHeader(9000+at, s, free[:4]...)
		}
	}
	return disk
}

// diskCase is a disk, and a store to save on it.
type diskCase struct {
	disk []string
	s    impl.Store
}

// someDisks is disks of all kinds: without a store, saved on once and several times, with any texts in blocks that are not used, and cut off while saving. They are made once; who changes one copies it first.
var someDisks = sync.OnceValue(func() []diskCase {
	var cases []diskCase
	stores := fewStores()
	next := func() impl.Store { return stores[len(cases)*5%len(stores)] }
	add := func(disk []string) {
		cases = append(cases, diskCase{disk, next()}, diskCase{trapped(disk, next()), next()})
	}
	for _, disk := range strayDisks() {
		add(disk)
		add(plainAfter(disk, next()))
	}
	for i, s := range stores {
		disk := plainAfter(newDisk(), s)
		add(disk)
		for n := range 5 {
			before := disk
			disk = plainAfter(disk, stores[(i+n*n+1)%len(stores)])
			add(disk)
			moves, _ := plainSave(before, next())
			add(plainWritten(before, moves[:n+1], n*9))
			add(plainWritten(before, moves, len(moves[len(moves)-1].Text)-1-n*3))
		}
	}
	return append(cases, scatteredDisks()...)
})

// scatteredDisks is disks whose runs stand in other blocks than a save would choose, or whose empty runs share a block.
func scatteredDisks() []diskCase {
	var cases []diskCase
	s, empty := deepStore(2), bareStore(1, 7, []int{0, 7}, nil)
	for i, blocks := range [][]int{{9, 8, 7, 6}, {2, 4, 6, 8}, {9, 2, 5, 3}, {3, 5, 7, 9}, {5, 4, 3, 2}, {7, 2, 8, 9}} {
		disk := slices.Repeat([]string{"!7"}, 10)
		for n, run := range runsOf(s) {
			disk[blocks[n]] = plainBlock(run)
		}
		disk[i%2] = plainHeader(50+i, s, blocks...)
		disk[1-i%2] = plainHeader(40+i, empty, slices.Repeat(blocks[:1], 4)...)
		cases = append(cases, diskCase{disk, fullStore(1)}, diskCase{disk, empty})
	}
	for _, blocks := range [][]int{{2, 2, 2, 2}, {9, 9, 9, 9}, {2, 3, 2, 3}, {5, 5, 5, 8}, {4, 9, 9, 4}} {
		disk := slices.Repeat([]string{"!7"}, 10)
		disk[1] = plainHeader(3, empty, blocks...)
		cases = append(cases, diskCase{disk, s}, diskCase{disk, empty})
	}
	return cases
}

// eachDisk calls a function with disks and stores to save on them.
func eachDisk(call func(disk []string, s impl.Store)) {
	for _, c := range someDisks() {
		call(c.disk, c.s)
	}
}

// saveOn is the writes that save a store, by the program.
func saveOn(t *testing.T, disk []string, s impl.Store) []impl.Move {
	t.Helper()
	moves, ok := impl.DiskSave(disk, s)
	if !ok || len(moves) == 0 {
		t.Fatalf("DiskSave(%q, %v) is %v, %v", disk, s, moves, ok)
	}
	return moves
}

// savedOn is a disk on which a store has been saved, by the program.
func savedOn(t *testing.T, disk []string, s impl.Store) []string {
	t.Helper()
	return impl.DiskDo(disk, saveOn(t, disk, s), math.MaxInt)
}

// isLoaded tests that a store is loaded from a disk.
func isLoaded(t *testing.T, disk []string, want impl.Store) {
	t.Helper()
	if s, ok := impl.DiskLoad(disk); !ok || !sameStore(s, want) {
		t.Fatalf("DiskLoad(%q) is %v, %v, not %v", disk, s, ok, want)
	}
}

// isNotLoaded tests that nothing is loaded from a disk.
func isNotLoaded(t *testing.T, disk []string) {
	t.Helper()
	if s, ok := impl.DiskLoad(disk); ok || !noStore(s) {
		t.Fatalf("DiskLoad(%q) is %v, %v", disk, s, ok)
	}
	if used := impl.DiskUsed(disk); len(disk) == 10 && !slices.Equal(used, make([]bool, 10)) {
		t.Fatalf("DiskUsed(%q) is %v", disk, used)
	}
}

// isLoadedAsItIs tests that what is loaded from a disk, and what is used of it, is what the document says.
func isLoadedAsItIs(t *testing.T, disk []string) (ok bool) {
	t.Helper()
	want, wantOk := plainCurrent(disk)
	if !wantOk {
		isNotLoaded(t, disk)
		return false
	}
	isLoaded(t, disk, want.store)
	if used := impl.DiskUsed(disk); !slices.Equal(used, plainUsed(disk)) {
		t.Fatalf("DiskUsed(%q) is %v, not %v", disk, used, plainUsed(disk))
	}
	return true
}

func TestDiskBlocksIsThatOfTheDocument(t *testing.T) {
	if impl.DiskBlocks != 10 {
		t.Error(impl.DiskBlocks)
	}
}

func TestDiskNewIsADiskOfEmptyBlocks(t *testing.T) {
	disk := impl.DiskNew()
	if !slices.Equal(disk, newDisk()) {
		t.Fatalf("DiskNew is %q", disk)
	}
	isNotLoaded(t, disk)
	overwrite(disk, "mine")
	if other := impl.DiskNew(); !slices.Equal(other, newDisk()) {
		t.Fatalf("DiskNew is %q the second time", other)
	}
}

func TestWhatASaveWritesIsWhatIsWrittenOut(t *testing.T) {
	s := bareStore(1, 9, []int{2, 5}, []impl.Entry{put("a", 1, 9)}, []impl.Entry{put("b", 3, 7), gone("cab", 6)}, nil, []impl.Entry{put("", 0, 3)})
	runs := []string{plainSeal("a=1-9;"), plainSeal("b=3-7;cab-6;"), "!7", plainSeal("=0-3;")}
	disk := newDisk()
	for i, c := range []struct {
		clears []int
		first  int
		header string
		at     int
	}{
		{[]int{0, 1}, 2, "1,1,9,2,3,4,5/2,5,", 0}, {[]int{1}, 6, "2,1,9,6,7,8,9/2,5,", 1}, {[]int{0}, 2, "3,1,9,2,3,4,5/2,5,", 0},
		{[]int{1}, 6, "4,1,9,6,7,8,9/2,5,", 1}, {[]int{0}, 2, "5,1,9,2,3,4,5/2,5,", 0},
	} {
		var want []impl.Move
		for _, at := range c.clears {
			want = append(want, impl.Move{At: at})
		}
		for n, text := range runs {
			want = append(want, impl.Move{At: c.first + n, Text: text})
		}
		want = append(want, impl.Move{At: c.at, Text: plainSeal(c.header)})
		moves := saveOn(t, disk, s)
		if !slices.Equal(moves, want) {
			t.Fatalf("save %d writes %v, not %v", i+1, moves, want)
		}
		disk = impl.DiskDo(disk, moves, 400)
		isLoaded(t, disk, s)
	}
	if used := impl.DiskUsed(disk); !slices.Equal(used, []bool{true, false, true, true, true, true, false, false, false, false}) {
		t.Errorf("used is %v", used)
	}
	bare, _ := impl.StoreNew(0)
	if moves := saveOn(t, newDisk(), bare); !slices.Equal(moves, []impl.Move{{}, {At: 1}, {At: 2, Text: "!7"}, {At: 3, Text: "!7"}, {At: 4, Text: "!7"}, {At: 5, Text: "!7"}, {Text: plainSeal("1,0,0,2,3,4,5/")}}) {
		t.Errorf("a new store is saved as %v", moves)
	}
}

// Promise 81.
func TestSavingOnANewDiskTakesOneWriteForEachRunAndThreeMore(t *testing.T) {
	for _, s := range allStores() {
		moves := saveOn(t, impl.DiskNew(), s)
		if len(moves) != 4+3 || moves[0] != (impl.Move{At: 0}) || moves[1] != (impl.Move{At: 1}) || moves[6] != (impl.Move{Text: plainHeader(1, s, 2, 3, 4, 5)}) {
			t.Fatalf("%v is saved as %v", s, moves)
		}
		for n, run := range runsOf(s) {
			if moves[2+n] != (impl.Move{At: 2 + n, Text: plainBlock(run)}) {
				t.Fatalf("%v is saved as %v", run, moves[2+n])
			}
		}
	}
}

func TestDiskSaveWritesWhatTheDocumentSays(t *testing.T) {
	first, later := 0, 0
	eachDisk(func(disk []string, s impl.Store) {
		moves := saveOn(t, disk, s)
		if want, _ := plainSave(disk, s); !slices.Equal(moves, want) {
			t.Fatalf("DiskSave(%q, %v) is %v, not %v", disk, s, moves, want)
		}
		if isLoadedAsItIs(t, disk) {
			later++
		} else {
			first++
		}
	})
	if first < 50 || later < 200 {
		t.Errorf("%d disks have no store, %d have one", first, later)
	}
}

// Promise 82.
func TestWhatIsSavedIsLoaded(t *testing.T) {
	disk := impl.DiskNew()
	for _, s := range allStores() {
		isLoaded(t, savedOn(t, impl.DiskNew(), s), s)
		disk = savedOn(t, disk, s)
		isLoaded(t, disk, s)
	}
	eachDisk(func(disk []string, s impl.Store) {
		disk = savedOn(t, disk, s)
		isLoaded(t, disk, s)
		if !isLoadedAsItIs(t, disk) {
			t.Fatalf("%v is loaded from %q", s, disk)
		}
	})
}

// eachCut calls a function with what is written of a save that is interrupted: after no write, and at each byte of each write; whole says whether nothing is cut.
func eachCut(disk []string, moves []impl.Move, call func(cut []string, whole bool)) {
	call(impl.DiskDo(disk, nil, 0), false)
	for n := 1; n <= len(moves); n++ {
		size := len(moves[n-1].Text)
		for bytes := -1; bytes <= size+1; bytes++ {
			call(impl.DiskDo(disk, moves[:n], bytes), n == len(moves) && bytes >= size)
		}
		call(impl.DiskDo(disk, moves[:n], math.MinInt), n == len(moves) && size == 0)
		call(impl.DiskDo(disk, moves[:n], math.MaxInt), n == len(moves))
	}
}

// fewCuts calls a function with some of them, among these the ends of each write, and all of the header.
func fewCuts(disk []string, moves []impl.Move, call func(cut []string, whole bool)) {
	for n := range moves {
		for _, bytes := range []int{-1, 0, 1, len(moves[n].Text) / 2, len(moves[n].Text) - 1} {
			call(impl.DiskDo(disk, moves[:n+1], bytes), false)
		}
		call(impl.DiskDo(disk, moves[:n+1], len(moves[n].Text)), n == len(moves)-1)
	}
	for bytes := range len(moves[len(moves)-1].Text) {
		call(impl.DiskDo(disk, moves, bytes), false)
	}
}

// Promise 83.
func TestWhereverSavingIsInterruptedOneStoreOrTheOtherIsLoaded(t *testing.T) {
	either := func(disk []string, s impl.Store, cuts func([]string, []impl.Move, func([]string, bool))) {
		previous, ok := plainCurrent(disk)
		cuts(disk, saveOn(t, disk, s), func(cut []string, whole bool) {
			switch {
			case whole:
				isLoaded(t, cut, s)
			case ok:
				isLoaded(t, cut, previous.store)
			default:
				isNotLoaded(t, cut)
			}
		})
	}
	eachDisk(func(disk []string, s impl.Store) {
		either(disk, s, fewCuts)
		either(trapped(disk, s), s, fewCuts)
	})
	for _, c := range fewer(someDisks(), 40) {
		either(c.disk, c.s, eachCut)
		either(trapped(c.disk, c.s), c.s, eachCut)
	}
}

// Promise 84.
func TestOfTwoSavesTheLastIsLoadedAndThePreviousOneUntilItsLastWrite(t *testing.T) {
	for i, c := range someDisks() {
		one, two := c.s, fewStores()[i%len(fewStores())]
		disk := savedOn(t, c.disk, one)
		moves := saveOn(t, disk, two)
		for n := range moves {
			isLoaded(t, impl.DiskDo(disk, moves[:n], math.MaxInt), one)
			isLoaded(t, impl.DiskDo(disk, moves[:n+1], len(moves[n].Text)-1), one)
		}
		isLoaded(t, impl.DiskDo(disk, moves, math.MaxInt), two)
		isLoaded(t, impl.DiskDo(disk, moves, len(moves[len(moves)-1].Text)), two)
	}
}

// Promise 85.
func TestAfterAnInterruptedSaveOneCanSaveAndLoadAgain(t *testing.T) {
	for i, c := range fewer(someDisks(), 120) {
		again := fewStores()[i%len(fewStores())]
		fewCuts(c.disk, saveOn(t, c.disk, c.s), func(cut []string, whole bool) {
			disk := savedOn(t, cut, again)
			isLoaded(t, disk, again)
			isLoaded(t, savedOn(t, disk, c.s), c.s)
		})
	}
}

// Promise 85, with one interruption after the other, until no numbers are left.
func TestInterruptedAgainAndAgainAsLongAsNumbersLast(t *testing.T) {
	stores := fewStores()
	disk := withBlock(plainAfter(newDisk(), some()), 0, plainHeader(9899, some(), 2, 3, 4, 5))
	want, seed := some(), uint32(3)
	for number := 9900; number <= 9999; number++ {
		for range number % 4 {
			seed = seed*1664525 + 1013904223
			moves := saveOn(t, disk, stores[int(seed>>9)%len(stores)])
			n := int(seed>>20) % len(moves)
			disk = impl.DiskDo(disk, moves[:n+1], int(seed>>4)%max(1, len(moves[n].Text)))
			isLoaded(t, disk, want)
		}
		want = stores[number%len(stores)]
		disk = savedOn(t, disk, want)
		isLoaded(t, disk, want)
		if current, ok := plainCurrent(disk); !ok || current.number.Int64() != int64(number) {
			t.Fatalf("the number is %v, not %d", current.number, number)
		}
	}
	for _, s := range stores {
		if moves, ok := impl.DiskSave(disk, s); ok || len(moves) != 0 {
			t.Fatalf("after 9999, %v are the writes", moves)
		}
	}
	isLoaded(t, disk, want)
}

// Promise 86.
func TestNoWriteIsToAUsedBlockAndTheLastOneIsTheHeader(t *testing.T) {
	eachDisk(func(disk []string, s impl.Store) {
		used, moves := impl.DiskUsed(disk), saveOn(t, disk, s)
		written := map[int]bool{}
		for i, m := range moves {
			if m.At < 0 || m.At > 9 || used[m.At] {
				t.Fatalf("write %d of %v is to a block that %q uses", i, moves, disk)
			}
			run, isRun := plainRead(m.Text)
			last, first := i == len(moves)-1, i < len(moves)-5
			switch {
			case last && (m.At > 1 || !strings.Contains(m.Text, "/")), first && (m.At > 1 || m.Text != ""):
				t.Fatalf("write %d of %v is no header, or does not clear one", i, moves)
			case !last && !first && (written[m.At] || m.At < 2 || !isRun || !slices.Equal(run, runsOf(s)[i-len(moves)+5])):
				t.Fatalf("write %d of %v is no run, or to a block that is written before", i, moves)
			}
			written[m.At] = true
		}
		after := impl.DiskUsed(impl.DiskDo(disk, moves, math.MaxInt))
		for _, m := range moves[len(moves)-5:] {
			if !after[m.At] {
				t.Fatalf("block %d is not used after %v", m.At, moves)
			}
		}
	})
}

// Promise 87.
func TestWithoutAllUnusedBlocksTheSameStoreIsLoaded(t *testing.T) {
	eachDisk(func(disk []string, s impl.Store) {
		bare, used := slices.Clone(disk), impl.DiskUsed(disk)
		for n := range bare {
			if !used[n] {
				bare[n] = ""
			}
		}
		before, ok := impl.DiskLoad(disk)
		after, afterOk := impl.DiskLoad(bare)
		if afterOk != ok || !sameStore(after, before) || !slices.Equal(impl.DiskUsed(bare), used) {
			t.Fatalf("from %q, %v is loaded, and without the rest %v", disk, before, after)
		}
		if moves, want := saveOn(t, bare, s), saveOn(t, disk, s); !slices.Equal(moves, want) {
			t.Fatalf("on %q, the writes are %v, and without the rest %v", disk, want, moves)
		}
		// Each of the used ones is needed.
		for n := range bare {
			if used[n] {
				isNotLoaded(t, withBlock(bare, n, ""))
			}
		}
	})
}

// Promise 88.
func TestWhatIsLoadedIsAValidStore(t *testing.T) {
	loaded := 0
	valid := func(disk []string) {
		s, ok := impl.DiskLoad(disk)
		if ok != impl.StoreOk(s) || ok != plainStore(s) {
			t.Fatalf("DiskLoad(%q) is %v, %v", disk, s, ok)
		}
		if ok {
			loaded++
		}
	}
	eachDisk(func(disk []string, s impl.Store) {
		valid(disk)
		fewCuts(disk, saveOn(t, disk, s), func(cut []string, whole bool) { valid(cut) })
		for n := range disk {
			valid(withBlock(disk, n, anyBlocks()[n]))
			valid(withBlock(disk, n, disk[(n+1)%10]))
		}
	})
	if loaded < 5000 {
		t.Error(loaded)
	}
}

// someMoves is n writes without a pattern, some of them to blocks that do not exist.
func someMoves(n int, seed uint32) []impl.Move {
	places := []int{0, 1, 2, 3, 4, 5, 6, 7, 8, 9, 0, 3, 9, 10, -1, 11, math.MaxInt, math.MinInt}
	texts := append(anyBlocks(), plainHeader(3, some(), 2, 3, 4, 5), "abc", "abcdef")
	var moves []impl.Move
	for range n {
		seed = seed*1664525 + 1013904223
		moves = append(moves, impl.Move{At: places[int(seed>>8)%len(places)], Text: texts[int(seed>>16)%len(texts)]})
	}
	return moves
}

// someBytes is numbers of bytes to cut a write at.
func someBytes() []int {
	return []int{0, 1, 2, 3, 4, 11, 400, 1000, -1, -2, math.MinInt, math.MaxInt}
}

// anyLists is lists of blocks, disks and others.
func anyLists() [][]string {
	lists := [][]string{nil, {}, {""}, {"a"}, {"a", "b", "c"}, slices.Repeat([]string{"x"}, 9), slices.Repeat([]string{"x"}, 11), slices.Repeat([]string{"y"}, 30)}
	for _, c := range fewer(someDisks(), 10) {
		lists = append(lists, c.disk)
	}
	return lists
}

// Promise 89.
func TestOnlyWrittenBlocksChange(t *testing.T) {
	for i, disk := range anyLists() {
		for n := range 12 {
			moves := someMoves(n, uint32(i*100+n))
			for _, bytes := range someBytes() {
				after := impl.DiskDo(disk, moves, bytes)
				if len(after) != len(disk) {
					t.Fatalf("after writes, %d blocks are %d", len(disk), len(after))
				}
				for at, text := range after {
					written := slices.ContainsFunc(moves, func(m impl.Move) bool { return m.At == at })
					if !written && text != disk[at] {
						t.Fatalf("block %d of %q is %q after %v", at, disk, text, moves)
					}
				}
			}
		}
	}
	eachDisk(func(disk []string, s impl.Store) {
		moves := saveOn(t, disk, s)
		after := impl.DiskDo(disk, moves, math.MaxInt)
		for at, used := range impl.DiskUsed(disk) {
			if used && after[at] != disk[at] {
				t.Fatalf("used block %d of %q is %q after %v", at, disk, after[at], moves)
			}
		}
	})
}

// Promise 90.
func TestDiskDoPerformsWritesInOrderAndCanBeSplitAnywhere(t *testing.T) {
	for i, disk := range anyLists() {
		for n := range 12 {
			moves := someMoves(n, uint32(i*50+n))
			for _, bytes := range someBytes() {
				want := plainWritten(disk, moves, bytes)
				if after := impl.DiskDo(disk, moves, bytes); !slices.Equal(after, want) {
					t.Fatalf("%q after %v, cut at %d, is %q, not %q", disk, moves, bytes, after, want)
				}
				for at := range moves {
					first := impl.DiskDo(disk, moves[:at], math.MaxInt)
					if after := impl.DiskDo(first, moves[at:], bytes); !slices.Equal(after, want) {
						t.Fatalf("%q after %v, split at %d and cut at %d, is %q, not %q", disk, moves, at, bytes, after, want)
					}
				}
				if after := impl.DiskDo(impl.DiskDo(disk, moves, bytes), nil, bytes); !slices.Equal(after, want) {
					t.Fatalf("no writes after %v give %q, not %q", moves, after, want)
				}
			}
			one := disk
			for _, m := range moves {
				one = impl.DiskDo(one, []impl.Move{m}, math.MaxInt)
			}
			if after := impl.DiskDo(disk, moves, math.MaxInt); !slices.Equal(one, after) {
				t.Fatalf("one by one, %v give %q, not %q", moves, one, after)
			}
		}
	}
}

func TestDiskDoAtItsEdges(t *testing.T) {
	disk := []string{"zero", "one", "two", "", "", "", "", "", "", "nine"}
	long := strings.Repeat("x", 1000)
	for _, c := range []struct {
		what  string
		moves []impl.Move
		bytes int
		at    int
		want  string
	}{
		{"no writes", nil, 3, 0, "zero"}, {"no writes and no bytes", []impl.Move{}, 0, 9, "nine"},
		{"no bytes", []impl.Move{{At: 1, Text: "abc"}}, 0, 1, ""}, {"a negative number of bytes", []impl.Move{{At: 1, Text: "abc"}}, -1, 1, ""}, {"the least number of bytes", []impl.Move{{At: 1, Text: "abc"}}, math.MinInt, 1, ""},
		{"one byte", []impl.Move{{At: 1, Text: "abc"}}, 1, 1, "a"}, {"one byte less", []impl.Move{{At: 1, Text: "abc"}}, 2, 1, "ab"}, {"as many bytes", []impl.Move{{At: 1, Text: "abc"}}, 3, 1, "abc"},
		{"one byte more", []impl.Move{{At: 1, Text: "abc"}}, 4, 1, "abc"}, {"the greatest number of bytes", []impl.Move{{At: 1, Text: "abc"}}, math.MaxInt, 1, "abc"},
		{"half a rune", []impl.Move{{At: 1, Text: "é"}}, 1, 1, "\xc3"}, {"an empty text", []impl.Move{{At: 1}}, 5, 1, ""}, {"an empty text and no bytes", []impl.Move{{At: 1}}, 0, 1, ""}, {"an empty text and a negative number", []impl.Move{{At: 1}}, -3, 1, ""},
		{"a shorter text", []impl.Move{{At: 0, Text: "ab"}}, 9, 0, "ab"}, {"a text that is longer than a block", []impl.Move{{At: 2, Text: long}}, 9999, 2, long}, {"a cut in one", []impl.Move{{At: 2, Text: long}}, 450, 2, long[:450]},
		{"only the last one is cut", []impl.Move{{At: 2, Text: "abc"}, {At: 1, Text: "def"}}, 1, 2, "abc"}, {"the last one is cut", []impl.Move{{At: 2, Text: "abc"}, {At: 1, Text: "def"}}, 1, 1, "d"},
		{"the same block twice", []impl.Move{{At: 2, Text: "abc"}, {At: 2, Text: "def"}}, 9, 2, "def"}, {"the same block twice, cut", []impl.Move{{At: 2, Text: "abc"}, {At: 2, Text: "def"}}, 2, 2, "de"}, {"the same block twice, no bytes", []impl.Move{{At: 2, Text: "abc"}, {At: 2, Text: "def"}}, 0, 2, ""},
		{"the first and the last block", []impl.Move{{At: 0, Text: "a"}, {At: 9, Text: "b"}}, 9, 9, "b"}, {"behind one that is skipped", []impl.Move{{At: 10, Text: "abc"}, {At: 9, Text: "def"}}, 2, 9, "de"},
		{"ahead of one that is skipped", []impl.Move{{At: 9, Text: "abc"}, {At: 10, Text: "def"}}, 1, 9, "abc"}, {"ahead of one at -1", []impl.Move{{At: 0, Text: "abc"}, {At: -1, Text: "def"}}, 0, 0, "abc"},
	} {
		after := impl.DiskDo(disk, c.moves, c.bytes)
		if !slices.Equal(after, plainWritten(disk, c.moves, c.bytes)) || after[c.at] != c.want {
			t.Errorf("%s: %q", c.what, after)
		}
	}
	for _, at := range []int{-1, -2, -10, 10, 11, 20, math.MinInt, math.MaxInt} {
		if after := impl.DiskDo(disk, []impl.Move{{At: at, Text: "abc"}}, 9); !slices.Equal(after, disk) {
			t.Errorf("a write to block %d gives %q", at, after)
		}
	}
}

// Promise 91. What another header block holds does not matter unless it is a valid header: the document has that with the larger number be the current one.
func TestTheContentsOfUnusedBlocksDoNotMatter(t *testing.T) {
	texts := append(anyBlocks(), fewer(someTexts(), 12)...)
	eachDisk(func(disk []string, s impl.Store) {
		used := impl.DiskUsed(disk)
		want, ok := plainCurrent(disk)
		if !ok {
			return
		}
		moves := saveOn(t, disk, s)
		for i := range texts {
			other := slices.Clone(disk)
			for n := range other {
				if !used[n] {
					other[n] = texts[(i+n*7)%len(texts)]
				}
			}
			// An older header, whose runs may be there or not, matters as little.
			if i%3 == 0 && want.number.Sign() > 0 {
				older := new(big.Int).Sub(want.number, big.NewInt(int64(i/3%2)))
				other[1-want.at] = plainHeader(older, bareStore(i%6, 999, nil, nil), 2+i%8, 2+i%7, 2+i%6, 9)
				if older.Cmp(want.number) == 0 && want.at == 0 {
					other[1] += "0"
				}
			}
			isLoaded(t, other, want.store)
			if !slices.Equal(impl.DiskUsed(other), used) || !slices.Equal(saveOn(t, other, s), moves) {
				t.Fatalf("%q and %q are used or written to in other ways", disk, other)
			}
		}
	})
}

// headerDisk is a disk on which two stores have been saved: some with number 1 and block 0, and another one with number 2 and block 1. All blocks hold runs.
func headerDisk() ([]string, impl.Store, impl.Store) {
	one := bareStore(1, 9, []int{2, 5}, []impl.Entry{put("a", 1, 9)}, []impl.Entry{put("b", 3, 7)}, []impl.Entry{put("a", 4, 2)}, []impl.Entry{put("ab", 5, 1)})
	two := bareStore(2, 12, []int{5, 10, 12}, []impl.Entry{gone("a", 12)}, []impl.Entry{put("a", 3, 11), put("c", 2, 10)}, nil, []impl.Entry{put("a", 5, 8), put("dd", 1, 4)})
	return plainAfter(newDisk(), one, two), one, two
}

// isNoHeader tests that a text in block 0 or 1 is not a valid header: neither alone, nor beside a valid one, which is loaded.
func isNoHeader(t *testing.T, what, text string) {
	t.Helper()
	disk, one, two := headerDisk()
	for _, c := range []struct {
		disk []string
		want *impl.Store
	}{
		{withBlock(disk, 1, text), &one}, {withBlock(disk, 0, text), &two}, {withBlock(withBlock(disk, 0, text), 1, text), nil}, {withBlock(withBlock(disk, 0, text), 1, ""), nil}, {withBlock(withBlock(disk, 0, ""), 1, text), nil},
	} {
		s, ok := impl.DiskLoad(c.disk)
		if ok != (c.want != nil) || ok && !sameStore(s, *c.want) || !ok && !noStore(s) {
			t.Fatalf("%s: DiskLoad(%q) is %v, %v", what, c.disk, s, ok)
		}
		if used := impl.DiskUsed(c.disk); !slices.Equal(used, plainUsed(c.disk)) {
			t.Fatalf("%s: DiskUsed(%q) is %v", what, c.disk, used)
		}
		if moves, _ := plainSave(c.disk, two); !slices.Equal(saveOn(t, c.disk, two), moves) {
			t.Fatalf("%s: DiskSave(%q) is not %v", what, c.disk, moves)
		}
	}
}

func TestAHeaderHasOneFormOnly(t *testing.T) {
	good := "77,2,12,6,7,8,9/5,10,12,"
	disk, _, two := headerDisk()
	isLoaded(t, withBlock(disk, 0, plainSeal(good)), two)
	isLoaded(t, withBlock(disk, 1, plainSeal(good)), two)
	for what, bodies := range map[string][]string{
		"leading zeros":                {"077,2,12,6,7,8,9/5,10,12,", "0077,2,12,6,7,8,9/5,10,12,", "00,2,12,6,7,8,9/5,10,12,", "77,02,12,6,7,8,9/5,10,12,", "77,2,012,6,7,8,9/5,10,12,", "77,2,12,06,7,8,9/5,10,12,", "77,2,12,6,07,8,9/5,10,12,", "77,2,12,6,7,08,9/5,10,12,", "77,2,12,6,7,8,09/5,10,12,", "77,2,12,6,7,8,9/05,10,12,", "77,2,12,6,7,8,9/5,010,12,", "77,2,12,6,7,8,9/5,10,012,"},
		"a plus sign":                  {"+77,2,12,6,7,8,9/5,10,12,", "77,+2,12,6,7,8,9/5,10,12,", "77,2,+12,6,7,8,9/5,10,12,", "77,2,12,+6,7,8,9/5,10,12,", "77,2,12,6,7,8,+9/5,10,12,", "77,2,12,6,7,8,9/+5,10,12,", "77,2,12,6,7,8,9/5,10,+12,"},
		"a minus sign":                 {"-77,2,12,6,7,8,9/5,10,12,", "-1,2,12,6,7,8,9/5,10,12,", "-0,2,12,6,7,8,9/5,10,12,", "77,-2,12,6,7,8,9/5,10,12,", "77,-0,12,6,7,8,9/5,10,12,", "77,2,-12,6,7,8,9/5,10,12,", "77,2,-0,6,7,8,9/,", "77,2,12,-6,7,8,9/5,10,12,", "77,2,12,6,7,8,-9/5,10,12,", "77,2,12,6,7,8,9/-5,10,12,", "77,2,12,6,7,8,9/-0,10,12,"},
		"a missing comma":              {"772,12,6,7,8,9/5,10,12,", "77,212,6,7,8,9/5,10,12,", "77,2,126,7,8,9/5,10,12,", "77,2,12,67,8,9/5,10,12,", "77,2,12,6,7,89/5,10,12,", "77,2,12,6,7,8,9/510,12,", "77,2,12,6,7,8,9/5,1012,", "77,2,12,6,7,8,9/5,10,12", "77,2,12,6,7,8,9/5"},
		"an additional comma":          {",77,2,12,6,7,8,9/5,10,12,", "77,,2,12,6,7,8,9/5,10,12,", "77,2,,12,6,7,8,9/5,10,12,", "77,2,12,,6,7,8,9/5,10,12,", "77,2,12,6,7,8,,9/5,10,12,", "77,2,12,6,7,8,9,/5,10,12,", "77,2,12,6,7,8,9/,5,10,12,", "77,2,12,6,7,8,9/5,,10,12,", "77,2,12,6,7,8,9/5,10,12,,", "77,2,12,6,7,8,9/,", "77,2,12,6,7,8,9/,,,"},
		"no slash, or more":            {"77,2,12,6,7,8,95,10,12,", "77,2,12,6,7,8,9,5,10,12,", "77,2,12,6,7,8,9", "77,2,12,6,7,8,9//5,10,12,", "77,2,12,6,7,8,9/5,/10,12,", "77,2,12,6,7,8,9/5,10,12,/", "77,2,12,6,7,8/9/5,10,12,", "/77,2,12,6,7,8,9/5,10,12,", "77/2,12,6,7,8,9/5,10,12,", "77/2/12/6/7/8/9/5/10/12/", "77,2,12,6,7,8,9\\5,10,12,"},
		"too few or too many numbers":  {"", "/", "77", "77/", "77,2/5,", "77,2,12/5,", "77,2,12,6/5,", "77,2,12,6,7,8/5,10,12,", "77,2,12,6,7,8,9,9/5,10,12,", "77,2,12,6,7,8,9,6,7,8,9/5,10,12,", "2,12,6,7,8,9/5,10,12,", "77,77,2,12,6,7,8,9/5,10,12,", ",2,12,6,7,8,9/5,10,12,", "77,,12,6,7,8,9/5,10,12,", "77,2,,6,7,8,9/5,10,12,", "77,2,12,,7,8,9/5,10,12,", "77,2,12,6,7,8,/5,10,12,", ",,,,,,/", ",,,,,,/,,,"},
		"other bytes":                  {" 77,2,12,6,7,8,9/5,10,12,", "77 ,2,12,6,7,8,9/5,10,12,", "77,2, 12,6,7,8,9/5,10,12,", "77,2,12,6,7,8,9 /5,10,12,", "77,2,12,6,7,8,9/5,10,12, ", "77,2,12,6,7,8,9/5,10,12,\n", "\n77,2,12,6,7,8,9/5,10,12,", "77;2;12;6;7;8;9/5;10;12;", "77,2,12,6,7,8,9/5,10,12;", "7a7,2,12,6,7,8,9/5,10,12,", "0x7,2,12,6,7,8,9/5,10,12,", "7_7,2,12,6,7,8,9/5,10,12,", "7.0,2,12,6,7,8,9/5,10,12,", "7e1,2,12,6,7,8,9/5,10,12,", "٣,2,12,6,7,8,9/5,10,12,", "７,2,12,6,7,8,9/5,10,12,", "77,２,12,6,7,8,9/5,10,12,", "77，2,12,6,7,8,9/5,10,12,", "\x0077,2,12,6,7,8,9/5,10,12,", "77,2,12,6,7,8,9/5,10,12,\x00", "\xff,2,12,6,7,8,9/5,10,12,", "a,2,12,6,7,8,9/5,10,12,", "77,2,12,6,7,8,9/a,", "77,2,12,6,7,8,9/5,10,12,x"},
		"Keep or Time":                 {"77,6,12,6,7,8,9/5,10,12,", "77,99,12,6,7,8,9/5,10,12,", "77,18446744073709551618,12,6,7,8,9/5,10,12,", "77,9223372036854775807,12,6,7,8,9/5,10,12,", "77,2,11,6,7,8,9/5,10,", "77,2,11,6,7,8,9/5,10,12,", "77,2,0,6,7,8,9/", "77,2,1000,6,7,8,9/5,10,12,", "77,2,4294967308,6,7,8,9/5,10,12,", "77,2,18446744073709551628,6,7,8,9/5,10,12,"},
		"a block number":               {"77,2,12,0,7,8,9/5,10,12,", "77,2,12,1,7,8,9/5,10,12,", "77,2,12,6,0,8,9/5,10,12,", "77,2,12,6,1,8,9/5,10,12,", "77,2,12,6,7,0,9/5,10,12,", "77,2,12,6,7,8,1/5,10,12,", "77,2,12,10,7,8,9/5,10,12,", "77,2,12,6,7,8,10/5,10,12,", "77,2,12,6,7,11,9/5,10,12,", "77,2,12,6,100,8,9/5,10,12,", "77,2,12,18446744073709551622,7,8,9/5,10,12,", "77,2,12,4294967302,7,8,9/5,10,12,", "77,2,12,6,7,8,9223372036854775807/5,10,12,", "77,2,12,6,7,8,99999999999999999999999/5,10,12,"},
		"a block twice":                {"77,2,12,6,6,8,9/5,10,12,", "77,2,12,7,7,8,9/5,10,12,", "77,2,12,6,9,8,9/5,10,12,", "77,2,12,9,7,8,9/5,10,12,", "77,2,12,6,6,6,6/5,10,12,", "77,2,12,8,9,9,8/5,10,12,"},
		"runs that are not of a store": {"77,2,12,7,6,8,9/5,10,12,", "77,2,12,9,8,7,6/5,10,12,", "77,2,12,6,9,8,7/5,10,12,", "77,2,12,2,7,8,9/5,10,12,", "77,2,12,6,2,7,9/5,10,12,"},
		"held times":                   {"77,2,12,6,7,8,9/10,5,12,", "77,2,12,6,7,8,9/5,5,12,", "77,2,12,6,7,8,9/12,12,", "77,2,12,6,7,8,9/5,10,13,", "77,2,12,6,7,8,9/13,", "77,2,12,6,7,8,9/999,", "77,2,12,6,7,8,9/1,5,10,12,", "77,2,12,6,7,8,9/0,1,2,3,4,5,6,7,8,9,", "77,2,12,6,7,8,9/18446744073709551621,", "77,2,12,6,7,8,9/4294967301,"},
	} {
		for _, body := range bodies {
			isNoHeader(t, what, plainSeal(body))
		}
	}
}

func TestAHeaderIsSealed(t *testing.T) {
	body := "77,2,12,6,7,8,9/5,10,12,"
	sum := plainSum(body)
	for other := range 10000 {
		if other != sum && (other%97 == 0 || other < 20 || other/20 == sum/20) {
			isNoHeader(t, "a wrong checksum", body+"!"+strconv.Itoa(other))
		}
	}
	seal := "!" + strconv.Itoa(sum)
	for _, end := range []string{"", "!", "!!", seal[:len(seal)-1], seal + "0", seal + " ", seal + "\n", seal + "\x00", seal + ",", seal + "/", seal + "!", seal + seal, seal + "!7", "!0" + seal[1:], "!00" + seal[1:], "!+" + seal[1:], "!-" + seal[1:], "! " + seal[1:], "!" + seal, "!" + strconv.Itoa(sum+9973), "!" + strconv.Itoa(sum-9973), seal[1:], "?" + seal[1:], "!7" + seal} {
		isNoHeader(t, "a seal "+end, body+end)
	}
	for _, text := range []string{"", "!7", "!", seal, body + seal + body + seal, " " + body + seal, "!7" + body + seal, plainSeal(body + seal), plainSeal(body + "!"), plainSeal("!" + body)} {
		isNoHeader(t, "another text", text)
	}
}

// eachHeaderDisk calls a function with disks that have two headers, each with one of them changed.
func eachHeaderDisk(change func(text string, call func(changed string)), call func(disk []string)) {
	disk, _, _ := headerDisk()
	for at := range 2 {
		change(disk[at], func(changed string) {
			call(withBlock(disk, at, changed))
			call(withBlock(withBlock(disk, at, changed), 1-at, ""))
		})
	}
}

func TestAHeaderThatIsCutOffOrHasAChangedByteIsNotValid(t *testing.T) {
	disk, one, two := headerDisk()
	for n := range len(disk[1]) {
		isLoaded(t, withBlock(disk, 1, disk[1][:n]), one)
	}
	for n := range len(disk[0]) {
		isLoaded(t, withBlock(disk, 0, disk[0][:n]), two)
		isNotLoaded(t, withBlock(withBlock(disk, 0, disk[0][:n]), 1, ""))
	}
	changedBytes(disk[1], func(changed string) { isLoaded(t, withBlock(disk, 1, changed), one) })
	changedBytes(disk[0], func(changed string) { isNotLoaded(t, withBlock(withBlock(disk, 0, changed), 1, "")) })
}

// Changes of a header that is sealed again: some give another valid one, and that is loaded.
func TestAChangedHeaderThatIsSealedAgainIsLoadedAsItIs(t *testing.T) {
	valid, others := 0, 0
	eachHeaderDisk(func(text string, call func(string)) {
		body, _, _ := strings.Cut(text, "!")
		for i := range len(body) + 1 {
			for _, c := range "0123456789,/-+! a" {
				call(plainSeal(body[:i] + string(c) + body[i:]))
				if i < len(body) {
					call(plainSeal(body[:i] + string(c) + body[i+1:]))
				}
			}
			if i < len(body) {
				call(plainSeal(body[:i] + body[i+1:]))
				call(plainSeal(body[:i]))
				call(plainSeal(body[i:]))
				call(text[:i] + text[i+1:])
			}
		}
	}, func(disk []string) {
		if isLoadedAsItIs(t, disk) {
			valid++
		} else {
			others++
		}
	})
	if valid < 200 || others < 200 {
		t.Errorf("%d are valid, %d are not", valid, others)
	}
}

// All block numbers there are, and some there are not, for each run.
func TestEachChoiceOfBlocksIsLoadedAsItIs(t *testing.T) {
	disk, _, two := headerDisk()
	loaded := 0
	for n := range 10 * 10 * 10 * 10 {
		changed := withBlock(disk, 0, plainHeader(3, two, n%10+1, n/10%10+1, n/100%10+1, n/1000+1))
		changed[1] = ""
		if isLoadedAsItIs(t, changed) {
			loaded++
		}
	}
	if loaded < 10 {
		t.Error(loaded)
	}
}

func TestKeepTimeAndTimesOfAHeaderAreLoadedAsTheyAre(t *testing.T) {
	disk, _, _ := headerDisk()
	loaded := 0
	as := func(s impl.Store) {
		if isLoadedAsItIs(t, withBlock(disk, 0, plainHeader(3, s, 6, 7, 8, 9))) && impl.DiskUsed(withBlock(disk, 0, plainHeader(3, s, 6, 7, 8, 9)))[0] {
			loaded++
		}
	}
	for keep := -2; keep <= 8; keep++ {
		for _, time := range []int{-1, 0, 1, 11, 12, 13, 500, 998, 999, 1000, 1001, 9999, math.MaxInt, math.MinInt} {
			as(impl.Store{Keep: keep, Time: time})
			as(impl.Store{Keep: keep, Time: time, Times: []int{time}})
		}
	}
	lists := [][]int{nil}
	for at := 0; at < len(lists); at++ {
		as(impl.Store{Keep: 1, Time: 12, Times: lists[at]})
		for _, time := range []int{-1, 0, 5, 11, 12, 13} {
			if len(lists[at]) < 4 {
				lists = append(lists, append(slices.Clone(lists[at]), time))
			}
		}
	}
	if loaded < 20 {
		t.Error(loaded)
	}
}

// By the document, a header with one block for two runs is valid if its store is: if the run is empty.
func TestTheSameBlockTwice(t *testing.T) {
	for a := 2; a < 10; a++ {
		for b := 2; b < 10; b++ {
			empty := bareStore(3, 8, []int{0, 8}, nil)
			for _, blocks := range [][]int{{a, a, a, b}, {a, b, a, b}, {b, a, a, a}, {a, a, b, b}} {
				disk := withBlock(slices.Repeat([]string{"!7"}, 10), 0, plainHeader(4, empty, blocks...))
				isLoaded(t, disk, empty)
				isLoadedAsItIs(t, disk)
				full := withBlock(disk, a, plainBlock([]impl.Entry{put("a", 1, 2)}))
				isNotLoaded(t, full)
			}
		}
	}
}

// Blocks 0 and 1 are for headers, even if the text of a run stands there.
func TestARunInBlock0Or1IsNotLoaded(t *testing.T) {
	empty, top := bareStore(3, 8, []int{0, 8}, nil), bareStore(3, 8, nil, []impl.Entry{put("a", 1, 2)})
	for at := range 2 {
		for _, s := range []impl.Store{empty, top} {
			disk := slices.Repeat([]string{"!7"}, 10)
			disk[1-at], disk[5] = plainBlock(s.Top), plainBlock(s.Top)
			isLoaded(t, withBlock(disk, at, plainHeader(4, s, 5, 6, 7, 8)), s)
			isNotLoaded(t, withBlock(disk, at, plainHeader(4, s, 1-at, 6, 7, 8)))
		}
		for n := range 4 {
			blocks := []int{2, 3, 4, 5}
			blocks[n] = 1 - at
			isNotLoaded(t, withBlock(slices.Repeat([]string{"!7"}, 10), at, plainHeader(4, empty, blocks...)))
		}
	}
}

func TestABlockThatIsNotTheTextOfARun(t *testing.T) {
	disk, one, two := headerDisk()
	for n := 6; n < 10; n++ {
		for _, text := range []string{"", "!", "!8", "7", disk[n] + "0", disk[n][:len(disk[n])-1], " " + disk[n], disk[n] + disk[n], disk[0], plainSeal("a=1-1"), plainSeal("e=1-1;"), plainSeal("b=1-1;a=1-1;"), plainSeal(plainBody(longRun(40))), "\xff"} {
			isLoaded(t, withBlock(disk, n, text), one)
			isNotLoaded(t, withBlock(withBlock(disk, n, text), 0, ""))
		}
	}
	for n := 2; n < 6; n++ {
		isLoaded(t, withBlock(disk, n, "no run"), two)
		isNotLoaded(t, withBlock(withBlock(disk, n, "no run"), 1, ""))
	}
}

func TestRunsThatMakeNoValidStore(t *testing.T) {
	disk, one, two := headerDisk()
	for n, runs := range map[int][][]impl.Entry{
		6: {longRun(5), deepRun("a", 5), {put("b", 1, 13)}, {put("a", 1, 11)}, {put("a", 1, 8)}, {gone("dd", 4)}},
		7: {deepRun("ab", 9), {put("b", 1, 13)}, {put("a", 1, 12)}, {put("dd", 1, 4)}, {put("a", 1, 7)}, longRun(9)},
		8: {deepRun("", 17), {put("b", 1, 13)}, {put("a", 1, 11)}, {put("c", 1, 12)}, {gone("dd", 3)}},
		9: {deepRun("cab", 25), {put("a", 1, 11)}, {put("c", 1, 10)}, {gone("a", 999)}},
	} {
		for _, run := range runs {
			if plainBlock(run) == "" {
				t.Fatalf("%v has no text", run)
			}
			isLoaded(t, withBlock(disk, n, plainBlock(run)), one)
			isNotLoaded(t, withBlock(withBlock(disk, n, plainBlock(run)), 0, ""))
		}
	}
	// More keys than a filter can have.
	var keys []impl.Entry
	for _, k := range allKeys()[:40] {
		keys = append(keys, gone(k, 1))
	}
	isLoaded(t, withBlock(disk, 9, plainBlock(keys[5:30])), one)
	isLoaded(t, withBlock(disk, 8, plainBlock(keys)), one)
	// In the last level, an entry may be later than Time.
	later := bareStore(2, 12, two.Times, two.Top, two.Levels[0], two.Levels[1], []impl.Entry{put("b", 1, 999)})
	isLoaded(t, withBlock(disk, 9, plainBlock(later.Levels[2])), later)
}

func TestOfTwoValidHeadersTheLargerNumberIsTheCurrentOneAndOfEqualOnesBlock1(t *testing.T) {
	disk, one, two := headerDisk()
	numbers := []string{"0", "1", "2", "7", "9", "10", "11", "99", "100", "101", "998", "999", "1000", "1001", "9998", "9999", "10000", "99999", "4294967296", "4294967297", "9223372036854775807", "9223372036854775808", "18446744073709551616", "18446744073709551617", "99999999999999999999999", "100000000000000000000000"}
	for i, zero := range numbers {
		for j, other := range numbers {
			both := withBlock(withBlock(disk, 0, plainHeader(zero, one, 2, 3, 4, 5)), 1, plainHeader(other, two, 6, 7, 8, 9))
			want, used := one, []bool{true, false, true, true, true, true, false, false, false, false}
			if j >= i {
				want, used = two, []bool{false, true, false, false, false, false, true, true, true, true}
			}
			isLoaded(t, both, want)
			if got := impl.DiskUsed(both); !slices.Equal(got, used) {
				t.Errorf("with the numbers %s and %s, used is %v", zero, other, got)
			}
			// The same with the stores in the other blocks.
			both = withBlock(withBlock(disk, 0, plainHeader(zero, two, 6, 7, 8, 9)), 1, plainHeader(other, one, 2, 3, 4, 5))
			if want = two; j >= i {
				want = one
			}
			isLoaded(t, both, want)
			isLoadedAsItIs(t, both)
		}
	}
}

func TestNumbersLastUpTo9999(t *testing.T) {
	base, one, two := headerDisk()
	for _, at := range []int{0, 1} {
		for _, c := range []struct{ number, next string }{
			{"0", "1"}, {"1", "2"}, {"8", "9"}, {"9", "10"}, {"99", "100"}, {"999", "1000"}, {"5000", "5001"}, {"9997", "9998"}, {"9998", "9999"},
			{"9999", ""}, {"10000", ""}, {"10001", ""}, {"65535", ""}, {"2147483647", ""}, {"4294967295", ""}, {"9223372036854775807", ""}, {"9223372036854775808", ""}, {"18446744073709551615", ""}, {"18446744073709551616", ""}, {"1" + strings.Repeat("0", 300), ""},
		} {
			disk := withBlock(withBlock(base, 1-at, "old"), at, plainHeader(c.number, one, 2, 3, 4, 5))
			isLoaded(t, disk, one)
			moves, ok := impl.DiskSave(disk, two)
			if ok != (c.next != "") || !ok && len(moves) != 0 {
				t.Fatalf("after number %s, DiskSave is %v, %v", c.number, moves, ok)
			}
			if ok && moves[len(moves)-1] != (impl.Move{At: 1 - at, Text: plainHeader(c.next, two, 6, 7, 8, 9)}) {
				t.Fatalf("after number %s, DiskSave is %v", c.number, moves)
			}
		}
	}
	last := savedOn(t, withBlock(withBlock(base, 1, ""), 0, plainHeader(9998, one, 2, 3, 4, 5)), two)
	isLoaded(t, last, two)
	if moves, ok := impl.DiskSave(last, one); ok || len(moves) != 0 {
		t.Errorf("after number 9999, DiskSave is %v", moves)
	}
	// Without the last one, the one before it is current again.
	isLoaded(t, savedOn(t, withBlock(last, 1, ""), one), one)
}

func TestAHeaderOfAnOlderStoreWhoseRunsHaveBeenWrittenOver(t *testing.T) {
	disk, one, two := headerDisk()
	for n := 2; n < 6; n++ {
		for _, text := range []string{"", "!7", "no run", disk[6], disk[7], plainBlock([]impl.Entry{put("d", 9, 3)})} {
			over := withBlock(disk, n, text)
			isLoaded(t, over, two)
			isLoadedAsItIs(t, over)
			// Alone, it is valid if what was written over makes a valid store.
			isLoadedAsItIs(t, withBlock(over, 1, ""))
			moves := saveOn(t, over, one)
			if moves[0] != (impl.Move{At: 0}) || len(moves) != 6 {
				t.Fatalf("the older header is not cleared first: %v", moves)
			}
			for i := range moves {
				isLoaded(t, impl.DiskDo(over, moves[:i+1], len(moves[i].Text)-1), two)
			}
		}
	}
	// A third save writes over the runs of the first one; cut off, it leaves nothing of that.
	moves := saveOn(t, disk, deepStore(1))
	for i := range moves[1:] {
		cut := impl.DiskDo(disk, moves[:i+1], math.MaxInt)
		isLoaded(t, cut, two)
		isNotLoaded(t, withBlock(cut, 1, ""))
	}
}

// A header that waits for runs to be written must not become valid while they are saved.
func TestAHeaderThatIsNotValidYetIsClearedFirst(t *testing.T) {
	for _, s := range fewStores() {
		for n, disk := range [][]string{trapped(newDisk(), s), trapped(plainAfter(newDisk(), some()), s), trapped(plainAfter(newDisk(), some(), deepStore(1)), s)} {
			moves := saveOn(t, disk, s)
			if clears := max(1, 2-n); len(moves) != 5+clears {
				t.Fatalf("on %q, %v are the writes", disk, moves)
			}
			untouched := impl.DiskDo(disk, slices.DeleteFunc(slices.Clone(moves), func(m impl.Move) bool { return m.At < 2 }), math.MaxInt)
			isLoaded(t, untouched, s)
			if current, _ := plainCurrent(untouched); current.number.Int64() < 9000 {
				t.Fatalf("without clearing, %q has number %v", untouched, current.number)
			}
			after := impl.DiskDo(disk, moves, math.MaxInt)
			if current, ok := plainCurrent(after); !ok || current.number.Int64() != int64(n+1) {
				t.Fatalf("after the save, %q has number %v", after, current.number)
			}
		}
	}
}

func TestWhichBlocksTheNextSaveClearsUsesAndLeavesAlone(t *testing.T) {
	disk := impl.DiskNew()
	for i, s := range slices.Concat(fewStores(), fewStores(), fewStores()) {
		moves := saveOn(t, disk, s)
		var places []int
		for _, m := range moves {
			places = append(places, m.At)
		}
		want := [][]int{{0, 2, 3, 4, 5, 0}, {1, 6, 7, 8, 9, 1}}[i%2]
		if i == 0 {
			want = []int{0, 1, 2, 3, 4, 5, 0}
		}
		if !slices.Equal(places, want) {
			t.Fatalf("save %d writes to %v", i+1, places)
		}
		after := impl.DiskDo(disk, moves, math.MaxInt)
		for n := range after {
			if !slices.Contains(want, n) && after[n] != disk[n] {
				t.Fatalf("save %d changes block %d", i+1, n)
			}
		}
		used := make([]bool, 10)
		for _, n := range want[len(want)-5:] {
			used[n] = true
		}
		if got := impl.DiskUsed(after); !slices.Equal(got, used) {
			t.Fatalf("after save %d, used is %v", i+1, got)
		}
		disk = after
	}
}

// A store needs four blocks for runs, and at least as many are never used, wherever the current one stands.
func TestThereAreAlwaysEnoughBlocks(t *testing.T) {
	one, two := deepStore(1), fullStore(4)
	choices := 0
	for n := range 8 * 8 * 8 * 8 {
		blocks := []int{n%8 + 2, n/8%8 + 2, n/64%8 + 2, n/512 + 2}
		if distinct := slices.Compact(slices.Sorted(slices.Values(blocks))); len(distinct) < 4 {
			continue
		}
		choices++
		at := n / 3 % 2
		disk := slices.Repeat([]string{"!7"}, 10)
		for i, run := range runsOf(one) {
			disk[blocks[i]] = plainBlock(run)
		}
		disk[at] = plainHeader(3, one, blocks...)
		isLoaded(t, disk, one)
		moves := saveOn(t, disk, two)
		if want, _ := plainSave(disk, two); !slices.Equal(moves, want) {
			t.Fatalf("on %q, %v are the writes, not %v", disk, moves, want)
		}
		isLoaded(t, impl.DiskDo(disk, moves, math.MaxInt), two)
	}
	if choices != 8*7*6*5 {
		t.Error(choices)
	}
}

// No run of a valid store is too long for a block, so each one has a text.
func TestTheLongestRunsAreSaved(t *testing.T) {
	s := longestStore()
	if !plainStore(s) || len(plainBlock(s.Levels[2])) < 300 {
		t.Fatalf("%v is not the longest store", s)
	}
	disk := savedOn(t, impl.DiskNew(), s)
	isLoaded(t, disk, s)
	header := disk[0]
	disk = savedOn(t, withBlock(disk, 0, plainHeader(9998, s, 2, 3, 4, 5)), s)
	isLoaded(t, disk, s)
	if disk[1] != plainSeal("9999,5,999,6,7,8,9/997,998,999,") || header != plainSeal("1,5,999,2,3,4,5/997,998,999,") {
		t.Errorf("the headers are %q and %q", header, disk[1])
	}
}

func TestAStoreWithoutEntries(t *testing.T) {
	disk, _, _ := headerDisk()
	for keep := range 6 {
		for _, s := range []impl.Store{bareStore(keep, 0, nil, nil), bareStore(keep, 0, []int{0}, nil), bareStore(keep, 999, []int{0, 7, 999}, nil)} {
			for _, on := range [][]string{newDisk(), disk} {
				moves := saveOn(t, on, s)
				for _, m := range moves[len(moves)-5 : len(moves)-1] {
					if m.Text != "!7" {
						t.Fatalf("an empty run is written as %q", m.Text)
					}
				}
				isLoaded(t, impl.DiskDo(on, moves, math.MaxInt), s)
			}
		}
	}
}

// notDisks is lists of fewer or more blocks than a disk has.
func notDisks() [][]string {
	lists := [][]string{nil, {}}
	disk, _, _ := headerDisk()
	for _, full := range [][]string{newDisk(), disk} {
		for n := range 10 {
			lists = append(lists, full[:n], full[10-n:])
		}
		for _, n := range []int{1, 2, 6, 10, 100} {
			lists = append(lists, append(slices.Clone(full), slices.Repeat([]string{""}, n)...), append(slices.Clone(full), slices.Repeat([]string{"!7"}, n)...))
		}
	}
	return lists
}

func TestAListThatIsNotADisk(t *testing.T) {
	for _, list := range notDisks() {
		for _, s := range []impl.Store{bareStore(1, 0, nil, nil), some(), {}} {
			if moves, ok := impl.DiskSave(list, s); ok || len(moves) != 0 {
				t.Fatalf("DiskSave of %d blocks is %v", len(list), moves)
			}
		}
		if s, ok := impl.DiskLoad(list); ok || !noStore(s) {
			t.Fatalf("DiskLoad of %d blocks is %v", len(list), s)
		}
		if used := impl.DiskUsed(list); len(used) != 0 {
			t.Fatalf("DiskUsed of %d blocks is %v", len(list), used)
		}
		moves := saveOn(t, newDisk(), some())
		if after := impl.DiskDo(list, moves, 30); !slices.Equal(after, plainWritten(list, moves, 30)) {
			t.Fatalf("DiskDo of %d blocks is %q", len(list), after)
		}
	}
}

func TestAStoreThatIsNotValidIsNotSaved(t *testing.T) {
	disk, _, _ := headerDisk()
	for what, s := range notStores() {
		for _, on := range [][]string{newDisk(), disk} {
			if moves, ok := impl.DiskSave(on, s); ok || len(moves) != 0 {
				t.Fatalf("%s: DiskSave is %v", what, moves)
			}
		}
	}
}

func TestLongBlocksAreReadToTheirEnd(t *testing.T) {
	disk, one, two := headerDisk()
	digits := strings.Repeat("9", 100000)
	long := "1," + digits + ",12,6,7,8,9/5,10,12,"
	for _, text := range []string{strings.Repeat(",", 1<<20), strings.Repeat("/", 1<<20), strings.Repeat("!", 1<<20), strings.Repeat("1,", 1<<19), digits, long, strings.Repeat("\xff", 1<<20), "77,2,12,6,7,8,9/" + strings.Repeat("5,", 100000)} {
		for _, full := range []string{text, plainSeal(text)} {
			isLoaded(t, withBlock(disk, 1, full), one)
			isLoaded(t, withBlock(disk, 7, full), one)
			isLoaded(t, withBlock(disk, 2, full), two)
		}
	}
	huge := withBlock(disk, 0, plainHeader(digits, one, 2, 3, 4, 5))
	isLoaded(t, huge, one)
	isLoaded(t, withBlock(huge, 1, plainHeader("1"+strings.Repeat("0", 100000), two, 6, 7, 8, 9)), two)
}

func TestDiskFunctionsLeaveTheirArgumentsAlone(t *testing.T) {
	for i, c := range someDisks() {
		disk, diskRoom := roomy(c.disk, "spare", "room", "!7")
		diskWas := slices.Clone(diskRoom)
		given := roomyStore(c.s)
		was := roomOf(given)
		moves, again := saveOn(t, disk, given), saveOn(t, disk, given)
		overwrite(moves, impl.Move{At: -7, Text: "mine"})
		if want, _ := plainSave(c.disk, c.s); !slices.Equal(again, want) {
			t.Fatalf("two results of DiskSave(%q, %v) share memory, or depend on spare room", c.disk, c.s)
		}
		writes, writesRoom := roomy(again, impl.Move{At: 3, Text: "spare"}, impl.Move{At: 0, Text: "room"})
		writesWas := slices.Clone(writesRoom)
		overwrite(impl.DiskDo(disk, nil, i), "mine")
		overwrite(impl.DiskDo(disk, writes, i), "mine")
		if after := impl.DiskDo(disk, writes, i); !slices.Equal(after, plainWritten(c.disk, again, i)) {
			t.Fatalf("two results of DiskDo(%q, %v) share memory, or depend on spare room", c.disk, writes)
		}
		overwrite(impl.DiskUsed(disk), true)
		if used := impl.DiskUsed(disk); !slices.Equal(used, plainUsed(c.disk)) {
			t.Fatalf("two results of DiskUsed(%q) share memory, or depend on spare room", c.disk)
		}
		if !slices.Equal(diskRoom, diskWas) || !slices.Equal(writesRoom, writesWas) || !reflect.DeepEqual(roomOf(given), was) {
			t.Fatalf("a function changes or shares memory of %q, %v or %v", c.disk, c.s, writes)
		}
	}
	for what, s := range notStores() {
		given, was := roomyStore(s), roomOf(roomyStore(s))
		impl.DiskSave(newDisk(), given)
		if !reflect.DeepEqual(roomOf(given), was) {
			t.Fatalf("%s: the store is changed", what)
		}
	}
}

func TestLoadedStoresShareNoMemory(t *testing.T) {
	eachDisk(func(disk []string, s impl.Store) {
		first, ok := impl.DiskLoad(disk)
		again, _ := impl.DiskLoad(disk)
		overwriteStore(first)
		if !ok {
			return
		}
		if want, _ := plainCurrent(disk); !sameStore(again, want.store) {
			t.Fatalf("two results of DiskLoad(%q) share memory", disk)
		}
		if !listsApart(again) {
			t.Fatalf("two lists of the result of DiskLoad(%q) share memory", disk)
		}
	})
}

func TestDiskFunctionsKeepNoState(t *testing.T) {
	var before [][]impl.Move
	eachDisk(func(disk []string, s impl.Store) { before = append(before, saveOn(t, disk, s)) })
	for i, c := range slices.Backward(someDisks()) {
		isLoadedAsItIs(t, c.disk)
		if moves := saveOn(t, c.disk, c.s); !slices.Equal(moves, before[i]) {
			t.Fatalf("DiskSave(%q, %v) is %v, and was %v", c.disk, c.s, moves, before[i])
		}
	}
}
