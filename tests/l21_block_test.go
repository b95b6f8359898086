package tests

import (
	"fmt"
	"regexp"
	"slices"
	"strconv"
	"strings"
	"sync"
	"testing"

	"loop.example/temse/impl"
)

// plainSum is the checksum of a text, added up from its end: each byte counts 31 times as much as the one behind it.
func plainSum(text string) int {
	sum, weight := 0, 1
	for i := len(text) - 1; i >= 0; i-- {
		sum += (int(text[i]) + 1) * weight % 9973
		weight = weight * 31 % 9973
	}
	return (sum + 7*weight) % 9973
}

// plainSeal is a text with its checksum.
func plainSeal(text string) string {
	return fmt.Sprintf("%s!%d", text, plainSum(text))
}

// plainBody is the entries of a list as they stand in a block, without a checksum.
func plainBody(list []impl.Entry) string {
	body := ""
	for _, e := range list {
		if e.Gone {
			body += fmt.Sprintf("%s-%d;", e.Key, e.Time)
		} else {
			body += fmt.Sprintf("%s=%d-%d;", e.Key, e.Val, e.Time)
		}
	}
	return body
}

// plainBlock is the text of a list of entries, if it has one.
func plainBlock(list []impl.Entry) string {
	text := plainSeal(plainBody(list))
	if !plainRun(list) || len(text) > 400 {
		return ""
	}
	return text
}

// entryForm is an entry in a block; its numbers have no leading zeros.
var entryForm = regexp.MustCompile(`([a-d]*)(?:=(0|[1-9]\d?))?-([1-9]\d{0,2});`)

// blockForm is the text of a block.
var blockForm = regexp.MustCompile(`^((?:` + entryForm.String() + `)*)!\d+$`)

// plainRead is the run of a text, if it is that of one.
func plainRead(text string) ([]impl.Entry, bool) {
	form := blockForm.FindStringSubmatch(text)
	if form == nil || text != plainSeal(form[1]) || len(text) > 400 {
		return nil, false
	}
	var r []impl.Entry
	for _, part := range entryForm.FindAllStringSubmatch(form[1], -1) {
		time, _ := strconv.Atoi(part[3])
		if val, err := strconv.Atoi(part[2]); err == nil {
			r = append(r, put(part[1], val, time))
		} else {
			r = append(r, gone(part[1], time))
		}
	}
	if !plainRun(r) {
		return nil, false
	}
	return r, true
}

// sizedRun is a run of 31 entries that is written in n bytes, from 399 to 402, of which the checksum has so many digits.
func sizedRun(n, digits int) []impl.Entry {
	// 29 entries of 13 bytes and one of 12 leave 5 to 11 bytes, ahead of the seal, to the first one.
	first := [...]impl.Entry{put("", 5, 5), put("", 55, 5), put("", 55, 55), put("", 55, 555), put("a", 55, 555), put("aa", 55, 555), put("aaa", 55, 555)}
	r := []impl.Entry{first[n-(1+digits)-29*13-12-5]}
	for i, k := range slices.DeleteFunc(allKeys(), func(k string) bool { return len(k) < 5 })[:29] {
		r = append(r, put(k, 10+i, 999-i))
	}
	r = append(r, put("ddddd", 5, 555))
	for seed := uint32(1); len(strconv.Itoa(plainSum(plainBody(r)))) != digits; {
		seed = seed*1664525 + 1013904223
		r[1+seed>>8%29].Val = 10 + int(seed>>16%90)
	}
	return r
}

// fullRuns is runs of 40 entries that are written in n bytes.
func fullRuns(n int) [][]impl.Entry {
	var runs [][]impl.Entry
	for seed := uint32(0); len(runs) < 5; seed++ {
		if r := mixedRun(40, 4, 999, seed); len(plainSeal(plainBody(r))) == n {
			runs = append(runs, r)
		}
	}
	return runs
}

// sizedRuns is runs that are written in n bytes, from 399 to 402.
func sizedRuns(n int) [][]impl.Entry {
	return append(fullRuns(n), sizedRun(n, 1), sizedRun(n, 2), sizedRun(n, 3), sizedRun(n, 4))
}

// blockRuns is runs, most of which have a text. They are made once; nobody changes them.
var blockRuns = sync.OnceValue(func() [][]impl.Entry {
	runs := append(someRuns(), smallRuns()...)
	for n := 399; n <= 402; n++ {
		runs = append(runs, sizedRuns(n)...)
	}
	return runs
})

// someTexts is texts of runs, of all sizes.
func someTexts() []string {
	var texts []string
	for _, r := range blockRuns() {
		if text := plainBlock(r); text != "" {
			texts = append(texts, text)
		}
	}
	return slices.Compact(slices.Sorted(slices.Values(texts)))
}

// fewTexts is a few of them, the shortest and the longest among them.
func fewTexts() []string {
	texts := []string{"!7", plainBlock([]impl.Entry{put("", 0, 3), gone("ab", 12)}), plainBlock(deepRun("", 40)), plainBlock(sizedRun(400, 1)), plainBlock(sizedRun(400, 4)), plainBlock(fullRuns(400)[0])}
	return append(texts, fewer(someTexts(), 40)...)
}

// anyTexts is texts of all kinds of bytes.
func anyTexts() []string {
	texts := []string{"", "a", "!", "!7", "abc", "cba", "\x00", "\x00\x00", "\xff", "\xff\xff\x00", "é", "世界", "\xe4\xb8", "\U0001f600", strings.Repeat("\xff", 1000), strings.Repeat("a", 9973), strings.Repeat("\x00", 401)}
	every := ""
	for c := range 256 {
		every += string([]byte{byte(c)})
	}
	return append(append(texts, every, every+every), fewTexts()...)
}

// changedBytes calls a function with a text in which one byte is another one: each byte, and each other one.
func changedBytes(text string, call func(changed string)) {
	bytes := []byte(text)
	for i, was := range bytes {
		for c := range 255 {
			bytes[i] = was + byte(c) + 1
			call(string(bytes))
		}
		bytes[i] = was
	}
}

// isNoRun tests that a text is not read.
func isNoRun(t *testing.T, text string) {
	t.Helper()
	if r, ok := impl.BlockRead(text); ok || len(r) != 0 {
		t.Fatalf("BlockRead(%q) is %v, %v", text, r, ok)
	}
}

// isReadAsItIs tests that a text is read as the document says.
func isReadAsItIs(t *testing.T, text string) (ok bool) {
	t.Helper()
	want, wantOk := plainRead(text)
	r, ok := impl.BlockRead(text)
	if ok != wantOk || !slices.Equal(r, want) {
		t.Fatalf("BlockRead(%q) is %v, %v, not %v, %v", text, r, ok, want, wantOk)
	}
	return ok
}

func TestBlockMaxIsThatOfTheDocument(t *testing.T) {
	if impl.BlockMax != 400 {
		t.Error(impl.BlockMax)
	}
}

func TestBlockSumOfSomeTexts(t *testing.T) {
	for _, c := range []struct {
		text string
		sum  int
	}{
		{"", 7}, {"a", 315}, {"\x00", 218}, {"\xff", 473}, {"ab", (31*315 + 99) % 9973}, {"\xff\x00", (31*473 + 1) % 9973}, {"é", (31*(31*7+0xc3+1) + 0xa9 + 1) % 9973},
		{"=0-3;", 9618},
	} {
		if sum := impl.BlockSum(c.text); sum != c.sum {
			t.Errorf("BlockSum(%q) is %d, not %d", c.text, sum, c.sum)
		}
	}
}

func TestBlockSumGoesFromByteToByte(t *testing.T) {
	for _, text := range anyTexts() {
		sum := 7
		for i := range len(text) {
			if got := impl.BlockSum(text[:i]); got != sum || got != plainSum(text[:i]) {
				t.Fatalf("BlockSum(%q) is %d, not %d", text[:i], got, sum)
			}
			sum = (31*sum + int(text[i]) + 1) % 9973
		}
	}
}

func TestBlockSumOfALongText(t *testing.T) {
	for _, text := range []string{strings.Repeat("\xff", 1<<20), strings.Repeat("abcd;-=!\x00", 100000)} {
		if sum := impl.BlockSum(text); sum != plainSum(text) {
			t.Errorf("the sum of %d bytes is %d, not %d", len(text), sum, plainSum(text))
		}
	}
}

// Promise 75.
func TestAChangedByteChangesTheChecksum(t *testing.T) {
	for _, text := range anyTexts() {
		if len(text) > 1000 {
			continue
		}
		sum := impl.BlockSum(text)
		changedBytes(text, func(changed string) {
			if impl.BlockSum(changed) == sum {
				t.Fatalf("%q and %q have the same checksum", text, changed)
			}
		})
	}
}

func TestBlockTextWritesWhatTheDocumentSays(t *testing.T) {
	for _, c := range []struct {
		r    []impl.Entry
		body string
	}{
		{nil, ""}, {[]impl.Entry{}, ""},
		{[]impl.Entry{put("", 0, 3), gone("ab", 12)}, "=0-3;ab-12;"},
		{[]impl.Entry{put("", 0, 1)}, "=0-1;"}, {[]impl.Entry{put("", 99, 999)}, "=99-999;"}, {[]impl.Entry{gone("", 1)}, "-1;"}, {[]impl.Entry{gone("", 999)}, "-999;"},
		{[]impl.Entry{put("abcda", 10, 100)}, "abcda=10-100;"}, {[]impl.Entry{gone("ddddd", 10)}, "ddddd-10;"}, {[]impl.Entry{put("aaaaa", 9, 9)}, "aaaaa=9-9;"},
		{[]impl.Entry{put("a", 7, 9), gone("a", 5), put("a", 0, 2), put("b", 0, 2)}, "a=7-9;a-5;a=0-2;b=0-2;"},
	} {
		if text := impl.BlockText(c.r); text != c.body+"!"+strconv.Itoa(impl.BlockSum(c.body)) {
			t.Errorf("BlockText(%v) is %q, not %q, sealed", c.r, text, c.body)
		}
	}
	for _, r := range blockRuns() {
		if text := impl.BlockText(r); text != plainBlock(r) {
			t.Fatalf("BlockText(%v) is %q, not %q", r, text, plainBlock(r))
		}
	}
}

func TestBlockMaxIsInclusive(t *testing.T) {
	for n := 399; n <= 402; n++ {
		for _, r := range sizedRuns(n) {
			written := plainSeal(plainBody(r))
			if len(written) != n || !plainRun(r) {
				t.Fatalf("%v is written in %d bytes, not %d", r, len(written), n)
			}
			text := impl.BlockText(r)
			if n <= 400 && text != written || n > 400 && text != "" {
				t.Errorf("BlockText of a run of %d bytes is %q", n, text)
			}
			if x, ok := impl.BlockRead(written); ok != (n <= 400) || ok && !slices.Equal(x, r) || !ok && len(x) != 0 {
				t.Errorf("BlockRead of a run of %d bytes is %v, %v", n, x, ok)
			}
		}
	}
	for _, r := range [][]impl.Entry{deepRun("abcda", 40), longRun(40)} {
		written := plainSeal(plainBody(r))
		if text := impl.BlockText(r); len(written) <= 400 || text != "" {
			t.Errorf("BlockText of a run of %d bytes is %q", len(written), text)
		}
		isNoRun(t, written)
	}
}

// The limit of entries counts on its own: these entries are written in far less than BlockMax bytes.
func TestMoreThanRunMaxEntriesHaveNoText(t *testing.T) {
	var r []impl.Entry
	for i := range 41 {
		r = append(r, gone("", 90-i))
	}
	if written := plainSeal(plainBody(r[:40])); impl.BlockText(r[:40]) != written || !isReadAsItIs(t, written) {
		t.Errorf("40 entries: %q", impl.BlockText(r[:40]))
	}
	if text := impl.BlockText(r); text != "" {
		t.Errorf("41 entries: %q", text)
	}
	isNoRun(t, plainSeal(plainBody(r)))
}

func TestWhatIsNoRunHasNoText(t *testing.T) {
	for _, r := range notRuns() {
		if text := impl.BlockText(r); text != "" {
			t.Fatalf("BlockText(%v) is %q", r, text)
		}
		// What is written of it may be the text of another list: a deletion with a value reads as one without.
		written := plainSeal(plainBody(r))
		isReadAsItIs(t, written)
		if x, ok := impl.BlockRead(written); ok && slices.Equal(x, r) {
			t.Fatalf("BlockRead(%q) is %v, which is no run", written, x)
		}
	}
	for _, e := range notEntries() {
		if text := impl.BlockText([]impl.Entry{e}); text != "" {
			t.Fatalf("BlockText of %v is %q", e, text)
		}
	}
}

// Promise 76.
func TestARunIsReadBackFromItsText(t *testing.T) {
	long, read := 0, 0
	for _, r := range blockRuns() {
		text := impl.BlockText(r)
		if text == "" {
			long++
			continue
		}
		read++
		if x, ok := impl.BlockRead(text); !ok || !slices.Equal(x, r) {
			t.Fatalf("BlockRead(%q) is %v, %v, not %v", text, x, ok, r)
		}
	}
	if long == 0 || read < 900 {
		t.Errorf("%d runs are read back, %d are too long", read, long)
	}
}

// Promise 76, of each key, value and time on its own.
func TestEachEntryIsReadBackFromItsText(t *testing.T) {
	readBack := func(e impl.Entry) {
		text := impl.BlockText([]impl.Entry{e})
		if x, ok := impl.BlockRead(text); !ok || len(x) != 1 || x[0] != e || text != plainSeal(plainBody([]impl.Entry{e})) {
			t.Fatalf("%v has the text %q, which is read as %v, %v", e, text, x, ok)
		}
	}
	for i, k := range allKeys() {
		readBack(put(k, i%100, i%999+1))
		readBack(gone(k, i%999+1))
	}
	for val := range 100 {
		for time := 1; time <= 999; time += 1 + val%7 {
			readBack(put("ab", val, time))
		}
	}
	for time := 1; time <= 999; time++ {
		readBack(gone("", time))
		readBack(put("", 0, time))
	}
}

// Promise 77: no two runs have the same text.
func TestDifferentRunsHaveDifferentTexts(t *testing.T) {
	runs := map[string][]impl.Entry{}
	for _, r := range blockRuns() {
		text := impl.BlockText(r)
		if other, found := runs[text]; found && text != "" && !slices.Equal(r, other) {
			t.Fatalf("%v and %v have the text %q", r, other, text)
		}
		runs[text] = r
	}
	if len(runs) < 900 {
		t.Error(len(runs))
	}
}

// Promise 77: what is read has no other text. All texts of a few bytes, sealed rightly.
func TestARunHasExactlyOneText(t *testing.T) {
	runs := 0
	for n := range 8 {
		for _, body := range textsOf("a=-;10", n) {
			if !isReadAsItIs(t, plainSeal(body)) {
				continue
			}
			runs++
			if r, _ := impl.BlockRead(plainSeal(body)); impl.BlockText(r) != plainSeal(body) {
				t.Fatalf("%q is read as %v, whose text is %q", plainSeal(body), r, impl.BlockText(r))
			}
		}
	}
	if runs < 50 {
		t.Error(runs)
	}
}

// The same of texts of a few parts, in which there are more entries.
func TestTextsOfAFewPartsAreReadAsTheyAre(t *testing.T) {
	parts := []string{"", "a", "b", "=0", "=", "1", "-2", ";", "-1;", "a=5-2;", "b-12;", "!"}
	runs := 0
	for _, list := range restsOf(parts, 5) {
		if isReadAsItIs(t, plainSeal(strings.Join(list, ""))) {
			runs++
		}
	}
	if runs < 500 {
		t.Error(runs)
	}
}

func TestARunIsReadFromOneSpellingOnly(t *testing.T) {
	for _, body := range []string{
		// Leading zeros, signs, and other ways to write a number.
		"a=00-1;", "a=01-1;", "a=099-1;", "a=1-01;", "a=1-001;", "a=1-0999;", "a-01;", "a=+1-1;", "a=-1-1;", "a=-0-1;", "a=1-+1;", "a=1--1;", "a--1;", "a-+1;", "a=1.0-1;", "a=0x1-1;", "a=1_0-1;", "a=1e1-1;", "a=1-1.;", "a=1,0-1;",
		// Numbers without digits.
		"a=-1;", "a=1-;", "a-;", "a=-;", "=-;", "-;", "a=1;", "a=;",
		// Numbers beyond their limits, and beyond those of an int; some wrap round to 0 or 1.
		"a=100-1;", "a=999-1;", "a=1-1000;", "a-1000;", "a=1-0;", "a-0;", "a=1-00;", "-0;", "=0-0;",
		"a=4294967297-1;", "a=1-4294967297;", "a=18446744073709551616-1;", "a=18446744073709551617-1;", "a=1-18446744073709551617;", "a-18446744073709551617;",
		"a=9223372036854775807-1;", "a=9223372036854775808-1;", "a=-9223372036854775808-1;", "a=-18446744073709551615-1;", "a=" + strings.Repeat("9", 390) + "-1;", "a=1-" + strings.Repeat("0", 390) + "1;", "a-" + strings.Repeat("1", 5000) + ";",
		// Letters that no key has, and too many letters.
		"e=1-1;", "`-1;", "A=1-1;", "z-1;", "ae=1-1;", "ea=1-1;", "a.b=1-1;", ".a=1-1;", "_-1;", "abcdab=1-1;", "aaaaaa-1;", strings.Repeat("a", 300) + "=1-1;", "1=1-1;", "1a-1;", "a1-1;", "a1=1-1;",
		// A value without the sign ahead of it.
		"a5-1;", "a5;", "5-1;", "5;", "a99-999;", "a;", ";", "a",
		// Signs that are missing, in another place, or too many.
		"a=1-1", "a-1", "a=11;", "a=1-1;b=1-1", "a=1-1b=1-1;", "a=1-1;;", ";a=1-1;", "a=1-1;;b=1-1;", "a==1-1;", "a=1=1-1;", "a=1-1-1;", "a-1-1;", "a-1=1;", "=a1-1;", "a=1;1-", "-a=1-1;", "a=1-a;", "a=1b-1;", "a=b-1;", "a=1-1b;", "a=1:1;", "a=1-1,", "a:1-1;", "a=1−1;",
		// Something behind the last ";", and blanks anywhere.
		"a=1-1;b", "a=1-1;0", "a=1-1;-", "a=1-1;=", "a=1-1; ", "a=1-1;\n", "a=1-1;\r\n", "a=1-1;b=", "a=1-1;b=1", "a=1-1;b=1-", "a=1-1;x", " ", "\n", " a=1-1;", "a =1-1;", "a= 1-1;", "a=1 -1;", "a=1- 1;", "a=1-1 ;", "a=1-1; b=1-1;", "\ta-1;", "a=1-1;\nb=1-1;",
		// Entries out of order, and one time of a key twice.
		"b=1-1;a=1-1;", "b-1;a-1;", "a=1-1;=1-1;", "aa=1-1;a=1-1;", "a=1-1;a=1-2;", "a-1;a-2;", "a=1-9;a=1-10;", "a=1-1;a=1-1;", "a=1-1;a=2-1;", "a=1-1;a-1;", "a-1;a=0-1;", "a-1;a-1;", "-1;-1;", "-1;-2;", "a-5;a-3;a-4;", "a-5;b-5;a-4;",
	} {
		isNoRun(t, plainSeal(body))
		isNoRun(t, plainSeal("=5-9;"+body))
		isReadAsItIs(t, plainSeal(body+"d=5-9;"))
	}
}

func TestBytesThatAreNoTextAreNoRun(t *testing.T) {
	good := "a=10-1;b-12;"
	strange := []string{"\x00", "\x00\x00", "\x01", "\x7f", "\x80", "\xbf", "\xc3", "\xe4\xb8", "\xff", "\xff\xfe", "\ufffd", "\ufeff", "\u200b", "é", "à", "世", "\U0001f600", "\U0010ffff", "а", "ａ", "ｄ", "１", "٣", "０", "²", "＝", "－", "；", "！", "Ａ", "\xed\xa0\x80", "\xc0\xb1", "\xe1"}
	// Of these, a conversion to a byte makes a sign, a digit or a letter.
	for _, c := range "=-;!09ad" {
		strange = append(strange, string(c+256), string(c+512), string(c+65536), string([]byte{byte(c) + 128}))
	}
	for _, s := range strange {
		isNoRun(t, s)
		isNoRun(t, s+plainSeal(good))
		isNoRun(t, plainSeal(good)+s)
		for i := range len(good) + 1 {
			isNoRun(t, plainSeal(good[:i]+s+good[i:]))
			if i < len(good) {
				isNoRun(t, plainSeal(good[:i]+s+good[i+1:]))
			}
		}
	}
	for c := range 256 {
		b := string([]byte{byte(c)})
		for _, text := range []string{b, b + "!", "!" + b, b + plainSeal(good), plainSeal(b), plainSeal(b + good), plainSeal(good + b), plainSeal("a=1" + b + "-1;"), plainSeal("a" + b + "1-1;"), plainSeal("a" + b + "-1;")} {
			isReadAsItIs(t, text)
		}
	}
}

func TestAWrongSealIsNoRun(t *testing.T) {
	for _, text := range fewTexts() {
		body, sum, _ := strings.Cut(text, "!")
		n, _ := strconv.Atoi(sum)
		for other := range 10000 {
			if other != n {
				isNoRun(t, body+"!"+strconv.Itoa(other))
			}
		}
		for _, seal := range []string{
			"", "!", "!!", "!0" + sum, "!00" + sum, "!+" + sum, "!-" + sum, "! " + sum, "!" + sum + " ", "!" + sum + "\n", "!" + sum + "\x00", "!" + sum + ";", "!" + sum + ".", "!" + sum + ".0", "!" + sum + "a", "!a" + sum,
			"!!" + sum, "!" + sum + "!", "!" + sum + "!" + sum, "!7!" + sum, "!" + sum + "!7", "!" + strconv.Itoa(n+9973), "!" + strconv.Itoa(n-9973), "!" + strconv.Itoa(n-19946), "!0x" + strconv.FormatInt(int64(n), 16),
			"!18446744073709551616", "!" + strings.Repeat("0", 300) + sum, "!" + strings.Repeat("9", 300), sum, "?" + sum, "！" + sum, "!\xef\xbc\x91", "!٣", ";!" + sum, "!" + strconv.Itoa(plainSum(text)), "!" + strconv.Itoa(plainSum(body+"!")),
		} {
			isNoRun(t, body+seal)
		}
		isNoRun(t, plainSeal(text))
		isNoRun(t, plainSeal(body+"!"))
		isNoRun(t, plainSeal("!"+body))
		isNoRun(t, plainSeal("!7"+body))
		isNoRun(t, text+text)
		isNoRun(t, "!7"+text)
		isNoRun(t, text+"!7")
	}
}

// Promise 78.
func TestATruncatedTextIsNotARun(t *testing.T) {
	cuts := 0
	for _, text := range someTexts() {
		for n := range len(text) {
			isNoRun(t, text[:n])
			cuts++
		}
	}
	if cuts < 50000 {
		t.Error(cuts)
	}
}

// A text that is cut off and sealed again has an entry less, or is not a run.
func TestATruncatedTextThatIsSealedAgain(t *testing.T) {
	for _, text := range someTexts() {
		whole, _ := plainRead(text)
		body, _, _ := strings.Cut(text, "!")
		for n := range len(body) {
			r, ok := impl.BlockRead(plainSeal(body[:n]))
			if want := strings.Count(body[:n], ";"); ok != (n == 0 || body[n-1] == ';') || ok && !slices.Equal(r, whole[:want]) || !ok && len(r) != 0 {
				t.Fatalf("BlockRead(%q) is %v, %v", plainSeal(body[:n]), r, ok)
			}
		}
	}
}

// What is left of a text that is cut off in front could have the right checksum by chance, so it is held against the plain model.
func TestATextThatIsCutOffInFrontIsReadAsItIs(t *testing.T) {
	for _, text := range someTexts() {
		for n := range len(text) + 1 {
			isReadAsItIs(t, text[n:])
		}
		body, sum, _ := strings.Cut(text, "!")
		isNoRun(t, body)
		isNoRun(t, sum)
	}
}

// Promise 79.
func TestATextWithOneChangedLetterIsNotARun(t *testing.T) {
	for _, text := range fewTexts() {
		changedBytes(text, func(changed string) { isNoRun(t, changed) })
	}
}

func TestATextWithOneByteLessIsReadAsItIs(t *testing.T) {
	for _, text := range someTexts() {
		body, sum, _ := strings.Cut(text, "!")
		for i := range len(text) {
			isReadAsItIs(t, text[:i]+text[i+1:])
			if i < len(body) {
				isReadAsItIs(t, plainSeal(body[:i]+body[i+1:]))
			} else {
				// The seal itself has lost something.
				isNoRun(t, text[:i]+text[i+1:])
			}
		}
		isNoRun(t, body+sum)
	}
}

func TestATextWithOneByteMoreIsReadAsItIs(t *testing.T) {
	for _, text := range fewTexts() {
		body, _, _ := strings.Cut(text, "!")
		for i := range len(text) + 1 {
			for _, c := range "ad=-;!019e. +\x00\u007f" {
				isReadAsItIs(t, text[:i]+string(c)+text[i:])
				if i <= len(body) {
					isReadAsItIs(t, plainSeal(body[:i]+string(c)+body[i:]))
				} else {
					isNoRun(t, text[:i]+string(c)+text[i:])
				}
			}
		}
	}
}

// Changes of a body that is sealed again: some give another run, and that run is read.
func TestAChangedBodyThatIsSealedAgainIsReadAsItIs(t *testing.T) {
	runs, others, seed := 0, 0, uint32(5)
	for _, text := range fewTexts() {
		body, _, _ := strings.Cut(text, "!")
		for range 2000 {
			bytes := []byte(body)
			for n := seed >> 30; n < 4 && len(bytes) > 0; n++ {
				seed = seed*1664525 + 1013904223
				bytes[int(seed>>8)%len(bytes)] = "abcd=-;0129!"[seed>>4%12]
			}
			if isReadAsItIs(t, plainSeal(string(bytes))) {
				runs++
			} else {
				others++
			}
		}
	}
	if runs < 1000 || others < 1000 {
		t.Errorf("%d runs, %d others", runs, others)
	}
}

// Promise 80.
func TestTheEmptyRunHasATextAndTheEmptyTextIsNotARun(t *testing.T) {
	for _, r := range [][]impl.Entry{nil, {}, make([]impl.Entry, 0, 9)} {
		if text := impl.BlockText(r); text != "!7" {
			t.Errorf("BlockText of an empty run is %q", text)
		}
	}
	if r, ok := impl.BlockRead("!7"); !ok || len(r) != 0 {
		t.Errorf("BlockRead of its text is %v, %v", r, ok)
	}
	isNoRun(t, "")
}

func TestBlockReadOfALongTextEnds(t *testing.T) {
	for _, part := range []string{"a", "=", "-", ";", "!", "1", "a=1-1;", "-1;", "\xff", "é", "!7"} {
		isNoRun(t, strings.Repeat(part, 200000))
		isNoRun(t, plainSeal(strings.Repeat(part, 200000)))
	}
}

func TestBlockFunctionsLeaveTheirRunsAlone(t *testing.T) {
	for _, r := range slices.Concat(blockRuns(), notRuns()) {
		given, room := roomy(r, put("spare", 1, 1), gone("room", 2), put("dddda", 1, 1))
		was := slices.Clone(room)
		text := impl.BlockText(given)
		first, _ := impl.BlockRead(text)
		again, _ := impl.BlockRead(text)
		overwrite(first, mine)
		if !slices.Equal(room, was) || text != plainBlock(r) {
			t.Fatalf("BlockText of %v changes it, or depends on spare room", r)
		}
		if text != "" && !slices.Equal(again, r) {
			t.Fatalf("two results of BlockRead(%q) share memory: %v", text, again)
		}
	}
}

func TestBlockFunctionsKeepNoState(t *testing.T) {
	texts := fewTexts()
	for i, text := range texts {
		before, _ := plainRead(text)
		isNoRun(t, text[:len(text)-1])
		impl.BlockText(notRuns()[i])
		impl.BlockSum(texts[(i+1)%len(texts)])
		if r, ok := impl.BlockRead(text); !ok || !slices.Equal(r, before) || impl.BlockText(r) != text || impl.BlockSum(text) != plainSum(text) {
			t.Fatalf("%q is read as %v, %v", text, r, ok)
		}
	}
}
