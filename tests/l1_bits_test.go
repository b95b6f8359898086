package tests

import (
	"math"
	"strings"
	"testing"

	"loop.example/temse/impl"
)

// shortBits is every bit string of at most 9 bits.
func shortBits() []string {
	all := []string{""}
	for from, size := 0, 1; size <= 9; size++ {
		to := len(all)
		for _, b := range all[from:to] {
			all = append(all, b+"0", b+"1")
		}
		from = to
	}
	return all
}

// mixedBits is n bits without a pattern, the same on each run.
func mixedBits(n int, seed uint32) string {
	b := make([]byte, n)
	for i := range b {
		seed = seed*1664525 + 1013904223
		b[i] = '0' + byte(seed>>24&1)
	}
	return string(b)
}

// longBits is bit strings whose lengths lie about the usual word sizes and about BitsMax.
func longBits() []string {
	var all []string
	for _, n := range []int{31, 32, 33, 63, 64, 65, 127, 128, 129, 191, 192, 193, 320, 384, 399, 400} {
		all = append(all, strings.Repeat("0", n), strings.Repeat("1", n))
		all = append(all, strings.Repeat("0", n-1)+"1", "1"+strings.Repeat("0", n-1), strings.Repeat("1", n-1)+"0")
		all = append(all, mixedBits(n, uint32(n)), mixedBits(n, uint32(n)+1000))
		for _, at := range []int{30, 62} {
			if at+4 <= n {
				all = append(all, strings.Repeat("0", at)+"1111"+strings.Repeat("0", n-at-4))
			}
		}
	}
	return all
}

func someBits() []string {
	return append(shortBits(), longBits()...)
}

// notBits is strings that are no bit strings.
func notBits() []string {
	all := []string{
		"2", "/", "a", " ", "01 ", " 01", "0 1", "01\n", "-1", "+1", "0x1", "1.0", "0,1", "\x00", "\x01", "\xb0", "\xb1", "０", "１",
		strings.Repeat("0", 399) + "2", strings.Repeat("1", 64) + "x" + strings.Repeat("1", 64), strings.Repeat("2", 400),
		strings.Repeat("0", 401), strings.Repeat("1", 401), strings.Repeat("1", 448), strings.Repeat("1", 449), strings.Repeat("10", 5000),
	}
	for c := range 256 {
		if c != '0' && c != '1' {
			s := string([]byte{byte(c)})
			all = append(all, s, s+"01", "01"+s, "0"+s+"1")
		}
	}
	return all
}

// head is the begin of a string, so that a long one does not fill the report.
func head(b string) string {
	if len(b) > 80 {
		return b[:80] + ".."
	}
	return b
}

// plainOne is where the one number n is, found by going over the bytes.
func plainOne(b string, n int) (int, bool) {
	for i := range len(b) {
		if b[i] == '1' {
			if n == 0 {
				return i, true
			}
			n--
		}
	}
	return 0, false
}

func TestBitsOkTakesBitStringsOnly(t *testing.T) {
	for _, b := range someBits() {
		if !impl.BitsOk(b) {
			t.Errorf("BitsOk(%q) is false", head(b))
		}
	}
	for _, b := range notBits() {
		if impl.BitsOk(b) {
			t.Errorf("BitsOk(%q) is true", head(b))
		}
	}
}

func TestBitsMaxIsInclusive(t *testing.T) {
	if impl.BitsMax != 400 {
		t.Fatal(impl.BitsMax)
	}
	just := strings.Repeat("01", 200)
	if !impl.BitsOk(just) || impl.BitsOnes(just, 400) != 200 || impl.BitsOnes(just, 399) != 199 {
		t.Error("400 bits", impl.BitsOnes(just, 400), impl.BitsOnes(just, 399))
	}
	if at, ok := impl.BitsOne(just, 199); !ok || at != 399 {
		t.Error("the last one", at, ok)
	}
	if at, ok := impl.BitsNext(just, 398); !ok || at != 399 {
		t.Error("the one from 398 on", at, ok)
	}
	longer := just + "1"
	if impl.BitsOk(longer) || impl.BitsOnes(longer, 0) != -1 || impl.BitsOnes(longer, 401) != -1 {
		t.Error("401 bits", impl.BitsOnes(longer, 0), impl.BitsOnes(longer, 401))
	}
	if at, ok := impl.BitsOne(longer, 0); ok || at != 0 {
		t.Error("a one of 401 bits", at, ok)
	}
	if at, ok := impl.BitsNext(longer, 0); ok || at != 0 {
		t.Error("a next one of 401 bits", at, ok)
	}
}

// Promise 1.
func TestBitsOnesIncreasesByOneAfterEachOne(t *testing.T) {
	for _, b := range someBits() {
		want := 0
		for at := 0; at <= len(b); at++ {
			if n := impl.BitsOnes(b, at); n != want {
				t.Fatalf("BitsOnes(%q, %d) is %d, not %d", head(b), at, n, want)
			}
			if at < len(b) && b[at] == '1' {
				want++
			}
		}
	}
}

func TestBitsOnesOfNoPosition(t *testing.T) {
	for _, b := range someBits() {
		for _, at := range []int{-1, -64, math.MinInt, len(b) + 1, len(b) + 64, 448, 449, math.MaxInt} {
			if n := impl.BitsOnes(b, at); n != -1 {
				t.Fatalf("BitsOnes(%q, %d) is %d", head(b), at, n)
			}
		}
	}
	for _, b := range notBits() {
		for _, at := range []int{-1, 0, 1, len(b), len(b) + 1, math.MinInt, math.MaxInt} {
			if n := impl.BitsOnes(b, at); n != -1 {
				t.Fatalf("BitsOnes(%q, %d) is %d", head(b), at, n)
			}
		}
	}
}

// Promise 2.
func TestBitsOneHasAsManyOnesBeforeItAsItsNumber(t *testing.T) {
	for _, b := range someBits() {
		for n := range strings.Count(b, "1") {
			at, ok := impl.BitsOne(b, n)
			if !ok || at < 0 || at >= len(b) || b[at] != '1' {
				t.Fatalf("BitsOne(%q, %d) is %d, %v", head(b), n, at, ok)
			}
			if strings.Count(b[:at], "1") != n || impl.BitsOnes(b, at) != n {
				t.Fatalf("BitsOne(%q, %d) is %d: there are %d ones before it", head(b), n, at, strings.Count(b[:at], "1"))
			}
		}
	}
}

// Promise 3.
func TestBitsNextIsTheOneNumberedByTheOnesBefore(t *testing.T) {
	for _, b := range someBits() {
		for at := 0; at <= len(b); at++ {
			found := strings.IndexByte(b[at:], '1')
			want, wantOk := 0, found >= 0
			if wantOk {
				want = at + found
			}
			if next, ok := impl.BitsNext(b, at); next != want || ok != wantOk {
				t.Fatalf("BitsNext(%q, %d) is %d, %v, not %d, %v", head(b), at, next, ok, want, wantOk)
			}
			if one, ok := impl.BitsOne(b, impl.BitsOnes(b, at)); one != want || ok != wantOk {
				t.Fatalf("BitsOne(%q, BitsOnes(%d)) is %d, %v, not %d, %v", head(b), at, one, ok, want, wantOk)
			}
		}
	}
}

func TestBitsNextOfNoPosition(t *testing.T) {
	for _, b := range someBits() {
		for _, at := range []int{-1, -64, math.MinInt, len(b), len(b) + 1, 401, 448, 449, math.MaxInt} {
			if next, ok := impl.BitsNext(b, at); ok || next != 0 {
				t.Fatalf("BitsNext(%q, %d) is %d, %v", head(b), at, next, ok)
			}
		}
	}
	for _, b := range notBits() {
		for _, at := range []int{-1, 0, 1, len(b), math.MinInt, math.MaxInt} {
			if next, ok := impl.BitsNext(b, at); ok || next != 0 {
				t.Fatalf("BitsNext(%q, %d) is %d, %v", head(b), at, next, ok)
			}
		}
	}
}

// Promise 4.
func TestThereIsAOneForEachNumberBelowTheTotalOnly(t *testing.T) {
	for _, b := range someBits() {
		total := impl.BitsOnes(b, len(b))
		if total != strings.Count(b, "1") {
			t.Fatalf("%q has %d ones in all", head(b), total)
		}
		for n := range total {
			want, _ := plainOne(b, n)
			if at, ok := impl.BitsOne(b, n); !ok || at != want {
				t.Fatalf("BitsOne(%q, %d) is %d, %v, not %d", head(b), n, at, ok, want)
			}
		}
		for _, n := range []int{total, total + 1, 400, 448, math.MaxInt, -1, -64, math.MinInt} {
			if n >= 0 && n < total {
				continue
			}
			if at, ok := impl.BitsOne(b, n); ok || at != 0 {
				t.Fatalf("BitsOne(%q, %d) is %d, %v", head(b), n, at, ok)
			}
		}
	}
	for _, b := range notBits() {
		for _, n := range []int{-1, 0, 1, len(b), math.MinInt, math.MaxInt} {
			if at, ok := impl.BitsOne(b, n); ok || at != 0 {
				t.Fatalf("BitsOne(%q, %d) is %d, %v", head(b), n, at, ok)
			}
		}
	}
}

func TestTheEmptyBitString(t *testing.T) {
	if !impl.BitsOk("") || impl.BitsOnes("", 0) != 0 || impl.BitsOnes("", 1) != -1 || impl.BitsOnes("", -1) != -1 {
		t.Error(impl.BitsOk(""), impl.BitsOnes("", 0), impl.BitsOnes("", 1), impl.BitsOnes("", -1))
	}
	for _, n := range []int{-1, 0, 1} {
		if at, ok := impl.BitsOne("", n); ok || at != 0 {
			t.Error("one", n, at, ok)
		}
		if at, ok := impl.BitsNext("", n); ok || at != 0 {
			t.Error("next", n, at, ok)
		}
	}
}
