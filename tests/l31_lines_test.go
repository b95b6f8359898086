package tests

import (
	"fmt"
	"math"
	"regexp"
	"runtime"
	"slices"
	"strconv"
	"strings"
	"sync"
	"testing"

	"loop.example/temse/impl"
)

// plainKey says whether a string is a key.
func plainKey(k string) bool {
	return len(k) <= 5 && strings.Trim(k, "abcd") == ""
}

// plainDeedText is the text of an operation, if it has one.
func plainDeedText(d impl.Deed) string {
	isNum := 0 <= d.Num && d.Num <= 999
	switch {
	case d.Kind == 1 && plainKey(d.Key) && isNum:
		return fmt.Sprintf("put .%s %d", d.Key, d.Num)
	case d.Kind == 2 && plainKey(d.Key) && d.Num == 0:
		return "take ." + d.Key
	case d == impl.Deed{Kind: 3}:
		return "hold"
	case d.Kind == 4 && d.Key == "" && isNum:
		return fmt.Sprintf("free %d", d.Num)
	case d == impl.Deed{Kind: 5}:
		return "down"
	case d.Kind == 6 && d.Key == "" && isNum:
		return fmt.Sprintf("join %d", d.Num)
	}
	return ""
}

// deedForms is the texts of each kind of operation.
var deedForms = []*regexp.Regexp{
	regexp.MustCompile(`^put \.(?P<key>[a-d]{0,5}) (?P<num>0|[1-9]\d{0,2})$`),
	regexp.MustCompile(`^take \.(?P<key>[a-d]{0,5})$`),
	regexp.MustCompile(`^hold$`),
	regexp.MustCompile(`^free (?P<num>0|[1-9]\d{0,2})$`),
	regexp.MustCompile(`^down$`),
	regexp.MustCompile(`^join (?P<num>0|[1-9]\d{0,2})$`),
}

// plainDeed is the operation of a text, if it is that of one.
func plainDeed(text string) (impl.Deed, bool) {
	for i, form := range deedForms {
		found := form.FindStringSubmatch(text)
		if found == nil {
			continue
		}
		d := impl.Deed{Kind: i + 1}
		if at := form.SubexpIndex("key"); at > 0 {
			d.Key = found[at]
		}
		if at := form.SubexpIndex("num"); at > 0 {
			d.Num, _ = strconv.Atoi(found[at])
		}
		return d, true
	}
	return impl.Deed{}, false
}

// plainLines executes lines: on a store, and on the list of all that they write.
type plainLines struct {
	s   impl.Store
	log []impl.Entry
}

// operate performs an operation.
func (p *plainLines) operate(d impl.Deed) string {
	a, _ := stepOf(d)
	next, ok := plainDo(p.s, a)
	if !ok {
		return "not done"
	}
	p.s = next
	switch a.name {
	case "put":
		p.log = append(p.log, put(d.Key, d.Num, next.Time))
	case "take":
		p.log = append(p.log, gone(d.Key, next.Time))
	}
	return fmt.Sprint("done ", next.Time)
}

// value is what was written last for what a word stands for, at a time.
func (p *plainLines) value(word string, time int) string {
	k, dotted := strings.CutPrefix(word, ".")
	e, ok := plainLast(p.log, k, time)
	readable := time == p.s.Time || slices.Contains(p.s.Times, time)
	if !dotted || !readable || !ok || e.Gone {
		return "none"
	}
	return strconv.Itoa(e.Val)
}

// all is what is there from what a word stands for to what another one stands for.
func (p *plainLines) all(from, to string) string {
	answer := "all"
	if from[:min(1, len(from))] != "." || to[:min(1, len(to))] != "." || !plainKey(from[1:]) || !plainKey(to[1:]) {
		return answer
	}
	for _, e := range plainPastList(p.log, from[1:], to[1:], p.s.Time) {
		answer += fmt.Sprintf(" .%s %d", e.Key, e.Val)
	}
	return answer
}

// looks is how many filters have a key.
func (p *plainLines) looks(k string) string {
	n := 0
	for _, run := range p.s.Levels {
		if plainHas(plainHeads(plainKeys(run), 1), k) {
			n++
		}
	}
	return fmt.Sprint("looks ", n)
}

// plainTime is the time that a word stands for; one that is beyond RunTime stands for no time.
func plainTime(word string) int {
	digits := strings.TrimLeft(regexp.MustCompile(`[^0-9]`).ReplaceAllString(word, ""), "0")
	if len(digits) > 3 {
		return -1
	}
	time, _ := strconv.Atoi("0" + digits)
	return time
}

// queryForms is the forms of the commands that ask.
var queryForms = map[string]*regexp.Regexp{
	"get":   regexp.MustCompile(`(?s)^get ([^ ]*)$`),
	"was":   regexp.MustCompile(`(?s)^was ([^ ]*) ([^ ]*)$`),
	"all":   regexp.MustCompile(`(?s)^all ([^ ]*) ([^ ]*)$`),
	"looks": regexp.MustCompile(`^looks \.([a-d]{0,5})$`),
}

// answer executes a line.
func (p *plainLines) answer(line string) string {
	if d, ok := plainDeed(line); ok {
		return p.operate(d)
	}
	if found := queryForms["get"].FindStringSubmatch(line); found != nil {
		return p.value(found[1], p.s.Time)
	}
	if found := queryForms["was"].FindStringSubmatch(line); found != nil {
		return p.value(found[1], plainTime(found[2]))
	}
	if found := queryForms["all"].FindStringSubmatch(line); found != nil {
		return p.all(found[1], found[2])
	}
	if found := queryForms["looks"].FindStringSubmatch(line); found != nil {
		return p.looks(found[1])
	}
	return "what"
}

// plainAnswers is the answers to a script, as the document says.
func plainAnswers(text string) string {
	if len(text) > 600 {
		return "too long\n"
	}
	p := &plainLines{s: bareStore(1, 0, nil, nil)}
	answers := ""
	for _, line := range regexp.MustCompile(`[^\n]+`).FindAllString(text, -1) {
		answers += p.answer(line) + "\n"
	}
	return answers
}

// scriptOf is lines as a script.
func scriptOf(lines ...string) string {
	script := ""
	for _, line := range lines {
		script += line + "\n"
	}
	return script
}

// answersTo is the answers of the program to lines, one for each.
func answersTo(t *testing.T, lines ...string) []string {
	t.Helper()
	script := scriptOf(lines...)
	answers, ended := strings.CutSuffix(impl.LinesRun(script), "\n")
	list := strings.Split(answers, "\n")
	if len(lines) == 0 && answers == "" {
		return nil
	}
	if !ended || len(list) != len(lines) {
		t.Fatalf("%q, of %d bytes, is answered by %q", script, len(script), answers)
	}
	return list
}

// isAnswered says whether a script is answered as it should be.
func isAnswered(t *testing.T, script, want string) {
	t.Helper()
	if got := impl.LinesRun(script); got != want {
		t.Errorf("%q is answered by %q, not %q", script, got, want)
	}
}

// isReadAs says whether a text is read as it should be.
func isReadAs(t *testing.T, text string) (ok bool) {
	t.Helper()
	want, wantOk := plainDeed(text)
	d, ok := impl.DeedRead(text)
	if d != want || ok != wantOk {
		t.Fatalf("DeedRead(%q) is %v, %v, not %v, %v", text, d, ok, want, wantOk)
	}
	return ok
}

// isNoDeed says whether a text is that of no operation.
func isNoDeed(t *testing.T, text string) {
	t.Helper()
	if d, ok := impl.DeedRead(text); ok || d != (impl.Deed{}) {
		t.Errorf("DeedRead(%q) is %v, %v", text, d, ok)
	}
}

// someDeeds is operations that have a text, with each key and each number. They are made once; nobody changes them.
var someDeeds = sync.OnceValue(func() []impl.Deed {
	deeds := []impl.Deed{{Kind: impl.DeedHold}, {Kind: impl.DeedDown}}
	for i, k := range allKeys() {
		deeds = append(deeds, impl.Deed{Kind: impl.DeedTake, Key: k})
		for _, num := range []int{0, 1, 9, 10, 99, 100, 999, i % 1000} {
			deeds = append(deeds, impl.Deed{Kind: impl.DeedPut, Key: k, Num: num})
		}
	}
	for num := range 1000 {
		deeds = append(deeds, impl.Deed{Kind: impl.DeedFree, Num: num}, impl.Deed{Kind: impl.DeedJoin, Num: num})
		for _, k := range []string{"", "a", "dcbad"} {
			deeds = append(deeds, impl.Deed{Kind: impl.DeedPut, Key: k, Num: num})
		}
	}
	return deeds
})

// textlessDeeds is operations that have no text.
func textlessDeeds() []impl.Deed {
	var deeds []impl.Deed
	for _, kind := range []int{0, 7, -1, 8, -6, 100, math.MinInt, math.MaxInt} {
		for _, k := range []string{"", "a", "e"} {
			deeds = append(deeds, impl.Deed{Kind: kind, Key: k}, impl.Deed{Kind: kind, Key: k, Num: 1}, impl.Deed{Kind: kind, Key: k, Num: -1})
		}
	}
	for _, num := range []int{-1, 1000, 1001, -999, 9999, math.MinInt, math.MaxInt} {
		for kind := 1; kind <= 6; kind++ {
			deeds = append(deeds, impl.Deed{Kind: kind, Num: num}, impl.Deed{Kind: kind, Key: "a", Num: num})
		}
	}
	for _, k := range notKeys() {
		for kind := 1; kind <= 6; kind++ {
			deeds = append(deeds, impl.Deed{Kind: kind, Key: k}, impl.Deed{Kind: kind, Key: k, Num: 1})
		}
	}
	for _, num := range []int{1, 2, 99, 999} {
		deeds = append(deeds, impl.Deed{Kind: impl.DeedTake, Num: num}, impl.Deed{Kind: impl.DeedTake, Key: "ab", Num: num}, impl.Deed{Kind: impl.DeedHold, Num: num}, impl.Deed{Kind: impl.DeedDown, Num: num})
	}
	for _, k := range []string{"a", "d", "ddddd"} {
		for _, kind := range []int{impl.DeedHold, impl.DeedFree, impl.DeedDown, impl.DeedJoin} {
			deeds = append(deeds, impl.Deed{Kind: kind, Key: k})
		}
	}
	return deeds
}

func TestLinesMaxIsThatOfTheDocument(t *testing.T) {
	if impl.LinesMax != 600 {
		t.Error(impl.LinesMax)
	}
}

func TestDeedTextOfOperationsThatAreWrittenOut(t *testing.T) {
	for _, c := range []struct {
		d    impl.Deed
		text string
	}{
		{impl.Deed{Kind: impl.DeedPut, Key: "ab", Num: 12}, "put .ab 12"}, {impl.Deed{Kind: impl.DeedPut}, "put . 0"}, {impl.Deed{Kind: impl.DeedPut, Key: "ddddd", Num: 999}, "put .ddddd 999"},
		{impl.Deed{Kind: impl.DeedPut, Num: 100}, "put . 100"}, {impl.Deed{Kind: impl.DeedTake, Key: "a"}, "take .a"}, {impl.Deed{Kind: impl.DeedTake}, "take ."}, {impl.Deed{Kind: impl.DeedHold}, "hold"},
		{impl.Deed{Kind: impl.DeedFree}, "free 0"}, {impl.Deed{Kind: impl.DeedFree, Num: 7}, "free 7"}, {impl.Deed{Kind: impl.DeedFree, Num: 999}, "free 999"}, {impl.Deed{Kind: impl.DeedDown}, "down"},
		{impl.Deed{Kind: impl.DeedJoin}, "join 0"}, {impl.Deed{Kind: impl.DeedJoin, Num: 2}, "join 2"}, {impl.Deed{Kind: impl.DeedJoin, Num: 999}, "join 999"},
		{impl.Deed{}, ""}, {impl.Deed{Kind: impl.DeedPut, Num: 1000}, ""}, {impl.Deed{Kind: impl.DeedPut, Num: -1}, ""}, {impl.Deed{Kind: impl.DeedPut, Key: "e"}, ""}, {impl.Deed{Kind: impl.DeedTake, Num: 1}, ""},
		{impl.Deed{Kind: impl.DeedHold, Key: "a"}, ""}, {impl.Deed{Kind: impl.DeedHold, Num: 1}, ""}, {impl.Deed{Kind: impl.DeedFree, Key: "a"}, ""}, {impl.Deed{Kind: impl.DeedDown, Num: -1}, ""}, {impl.Deed{Kind: impl.DeedJoin, Key: "b", Num: 1}, ""},
	} {
		if text := impl.DeedText(c.d); text != c.text {
			t.Errorf("DeedText(%v) is %q, not %q", c.d, text, c.text)
		}
		if d, ok := impl.DeedRead(c.text); c.text != "" && (!ok || d != c.d) {
			t.Errorf("DeedRead(%q) is %v, %v, not %v", c.text, d, ok, c.d)
		}
	}
}

func TestDeedTextWritesWhatTheDocumentSays(t *testing.T) {
	for _, d := range slices.Concat(someDeeds(), textlessDeeds(), notDeeds(), strayDeeds()) {
		if text := impl.DeedText(d); text != plainDeedText(d) {
			t.Errorf("DeedText(%v) is %q, not %q", d, text, plainDeedText(d))
		}
	}
	for kind := -2; kind <= 9; kind++ {
		for _, k := range []string{"", "a", "dcb", "abcda", "e", "abcdab", ".", ".a", " ", "a b"} {
			for num := -1000; num <= 2000; num += 1 + (num+1000)%7 {
				if d := (impl.Deed{Kind: kind, Key: k, Num: num}); impl.DeedText(d) != plainDeedText(d) {
					t.Errorf("DeedText(%v) is %q, not %q", d, impl.DeedText(d), plainDeedText(d))
				}
			}
		}
	}
}

func TestOperationsWithoutAText(t *testing.T) {
	for _, d := range textlessDeeds() {
		if text := impl.DeedText(d); text != "" {
			t.Errorf("DeedText(%v) is %q", d, text)
		}
	}
}

// Promise 92.
func TestAnOperationIsReadBackFromItsText(t *testing.T) {
	for _, d := range someDeeds() {
		text := impl.DeedText(d)
		if read, ok := impl.DeedRead(text); text == "" || !ok || read != d {
			t.Fatalf("%v is written as %q and read as %v, %v", d, text, read, ok)
		}
	}
}

// fewDeedTexts is texts of operations: of each kind the shortest, the longest, and some others.
func fewDeedTexts() []string {
	return []string{"put . 0", "put .ddddd 999", "put .a 1", "put .abcda 10", "put .ab 100", "put . 999", "put .dcba 99", "take .", "take .a", "take .abcda", "take .ddddd", "hold", "free 0", "free 7", "free 10", "free 999", "down", "join 0", "join 1", "join 2", "join 100", "join 999"}
}

// Promise 93: whatever is done to a text, it is read only as it is.
func TestAnOperationHasExactlyOneText(t *testing.T) {
	read, refused := 0, 0
	count := func(text string) {
		if isReadAs(t, text) {
			read++
		} else {
			refused++
		}
	}
	for _, text := range fewDeedTexts() {
		count(text)
		for at := range len(text) + 1 {
			count(text[:at])
			count(text[at:])
			for c := range 256 {
				b := string([]byte{byte(c)})
				count(text[:at] + b + text[at:])
				if at < len(text) {
					count(text[:at] + b + text[at+1:])
				}
			}
			for end := at; end <= len(text); end++ {
				count(text[:at] + text[end:])
				count(text[:end] + text[at:])
			}
		}
	}
	if read < 300 || refused < 10000 {
		t.Errorf("%d texts are read, and %d are not", read, refused)
	}
	for _, d := range someDeeds() {
		if again, _ := impl.DeedRead(impl.DeedText(d)); impl.DeedText(again) != impl.DeedText(d) {
			t.Fatalf("%q is read as %v", impl.DeedText(d), again)
		}
	}
}

// Promise 93, of texts that are put together of a few parts.
func TestDeedTextsOfAFewParts(t *testing.T) {
	parts := []string{"put", "take", "hold", "free", "down", "join", " ", ".", "a", "dd", "0", "1", "99", "-", "\n", "e"}
	read := 0
	var extend func(text string, n int)
	extend = func(text string, n int) {
		if isReadAs(t, text) {
			read++
		}
		for _, part := range parts {
			if n > 0 {
				extend(text+part, n-1)
			}
		}
	}
	extend("", 4)
	for _, start := range []string{"put .", "put .a ", "take ."} {
		extend(start, 4)
	}
	if read < 80 {
		t.Error("too few texts are read:", read)
	}
}

// Promise 94.
func TestOperationsAreEqualIfAndOnlyIfTheirTextsAre(t *testing.T) {
	byText := map[string]impl.Deed{}
	for _, d := range someDeeds() {
		text := impl.DeedText(d)
		if other, found := byText[text]; found && other != d {
			t.Fatalf("%v and %v are both %q", d, other, text)
		}
		byText[text] = d
	}
	few := fewer(someDeeds(), 600)
	for _, a := range few {
		for _, b := range few {
			if (a == b) != (impl.DeedText(a) == impl.DeedText(b)) {
				t.Fatalf("%v is %q, and %v is %q", a, impl.DeedText(a), b, impl.DeedText(b))
			}
		}
	}
	if len(byText) < 10000 {
		t.Error("too few operations:", len(byText))
	}
}

func TestTextsThatAreNoOperation(t *testing.T) {
	for _, text := range []string{
		"", " ", "  ", ".", "\n", "\x00", "\xff", "0", "put", "put ", "put  ", "put .", "put . ", "put .a", "put .a ", "put .a  1", "put  .a 1", " put .a 1", "put .a 1 ", "put .a 1\n", "put .a 1\r", "put .a 1 1", "put .a .b 1", "put 1 .a", "put 1",
		"put a 1", "put ab 1", "put  1", "put ..a 1", "put .. 1", "put .a. 1", "put .x 1", "put .e 1", "put .A 1", "put .abcdab 1", "put .a\x00 1", "put .\xff 1", "put .ä 1", "put .ａ 1", "put .a １", "put .a ٣", "put\t.a 1", "put .a\t1", "put\u00a0.a 1",
		"put .a 01", "put .a 00", "put .a 001", "put .a +1", "put .a -1", "put .a -0", "put .a +0", "put .a 1000", "put .a 9999", "put .a 1.", "put .a 1.0", "put .a .1", "put .a x", "put .a 0x1", "put .a 1e1", "put .a 1_0", "put .a 18446744073709551617", "put .a 99999999999999999999999",
		"take", "take ", "take a", "take  .a", "take ..a", "take .a ", "take .a 0", "take .a 1", "take .e", "take .a .b", "take .abcdab", " take .a", "take .\xc3", "take .A", "take 1", "take 0",
		"hold ", " hold", "hold 0", "hold 1", "hold .", "hold .a", "hold hold", "holdhold", "hold\r", "hold\n", "hol", "holdx", "Hold", "HOLD", "h\x00old",
		"free", "free ", "free .", "free .1", "free  1", "free 1 ", "free -1", "free +1", "free -0", "free 01", "free 1000", "free 00", "free a", "free 1 1", "free .a 1", "free 9999999999999999999999",
		"down ", " down", "down 0", "down .", "down .a", "down down", "Down", "dow", "downs", "down\t",
		"join", "join ", "join .", "join  0", "join 0 ", "join -1", "join +0", "join 00", "join 1000", "join a", "join 0 0", "join .a 0", "join 0x0",
	} {
		isNoDeed(t, text)
	}
}

// notNames is words that are the name of no operation.
func notNames() []string {
	return []string{"", "get", "was", "all", "looks", "what", "done", "none", "not", "too", "puts", "pu", "pput", "Put", "PUT", "put.", "put.a", ".put", "taken", "tak", "Take", "taketake", "holds", "hol", "held", "frees", "fre", "freed", "down0", "downs", "up", "joins", "joi", "joined", "drop", "delete", "set", "list", "quit", "1", "0", "6", ".", ".a", "a", "\x00", "\xff", "hold\x00", "ｐｕｔ", "püt", "pu\u0301t", "put\ufeff", "\ufeffput"}
}

func TestWordsThatAreNotOperations(t *testing.T) {
	for _, name := range notNames() {
		for _, rest := range []string{"", " .a 1", " .a", " 1", " 0", " .", " . 0"} {
			isNoDeed(t, name+rest)
		}
		if name == "" {
			continue
		}
		for _, rest := range []string{"", " .a 1 1", " 0 1 2", " . . ."} {
			isAnswered(t, scriptOf("hold", name+rest, "down"), scriptOf("done 0", "what", "done 0"))
		}
		if queryForms[name] == nil {
			isAnswered(t, scriptOf(name, name+" .a", name+" .a 1", name+" 1", name+" .a .b", "put .a 1"), scriptOf("what", "what", "what", "what", "what", "done 1"))
		}
	}
}

// No text of an operation has more than 14 bytes, so those of 40 are not read either.
func TestTextsOf40BytesAndMore(t *testing.T) {
	for n := 15; n <= 42; n++ {
		for _, text := range fewDeedTexts() {
			isNoDeed(t, text+strings.Repeat(" ", n-len(text)))
			isNoDeed(t, strings.Repeat(" ", n-len(text))+text)
			isNoDeed(t, text+strings.Repeat("0", n-len(text)))
			isNoDeed(t, text[:4]+strings.Repeat(" ", n-len(text))+text[4:])
		}
		isNoDeed(t, "put .a "+strings.Repeat("0", n-8)+"1")
		isNoDeed(t, "free "+strings.Repeat("0", n-6)+"1")
		isNoDeed(t, "take ."+strings.Repeat("a", n-6))
		isNoDeed(t, strings.Repeat("x", n))
	}
	for _, part := range []string{"put .a 1", "put ", " ", ".", "a", "0", "\n", "\xff"} {
		isNoDeed(t, strings.Repeat(part, 100000))
	}
	long := strings.Repeat("0", 40)
	isAnswered(t, scriptOf("put .a 5", "was .a "+long+"1", "put .a "+long+"1", "join "+long, "get .a"), scriptOf("done 1", "5", "what", "what", "5"))
}

// Promise 95.
func TestAnOperationUsesAtMostOneTimeAndGivesAValidStore(t *testing.T) {
	used, unused := 0, 0
	deeds := fewer(someDeeds(), 300)
	for i, s := range slices.Concat(someStores(), laterStores()) {
		for j, d := range deeds {
			if (i+j)%40 > 0 && j > 1 {
				continue
			}
			read, _ := impl.DeedRead(impl.DeedText(d))
			next, ok := impl.PastDo(s, []impl.Deed{read})
			if !ok || !impl.StoreOk(next) || !plainStore(next) {
				t.Fatalf("%q of %v gives %v, %v", impl.DeedText(d), s, next, ok)
			}
			switch next.Time - s.Time {
			case 0:
				unused++
			case 1:
				used++
			default:
				t.Fatalf("%q uses the times from %d to %d", impl.DeedText(d), s.Time, next.Time)
			}
		}
	}
	if used < 1000 || unused < 1000 {
		t.Errorf("%d operations use a time, and %d do not", used, unused)
	}
}

// whatLines is lines that are no command.
func whatLines() []string {
	lines := []string{
		" ", "  ", "\r", "\t", ".", ".a", "a", "0", "what", "done 1", "none", "not done", "too long", "all", "all ", "all .", "all .a", "all .a .b .c", "all .a .b ", " all .a .b", "all  .a .b", "all .a  .b", "all\t.a .b", "all. .b", "ALL .a .b", "all.a.b",
		"get", "get .a .b", "get .a 1", "get .a ", " get .a", "get  .a", "get.a", "get\t.a", "Get .a", "gets .a", "get .a\t.b c", "was", "was .a", "was .a 1 1", "was .a 1 ", " was .a 1", "was  .a 1", "was .a  1", "Was .a 1", "were .a 1", "was\t.a 1",
		"looks", "looks ", "looks .a .b", "looks .a 1", "looks .a ", " looks .a", "looks  .a", "look .a", "Looks .a", "looks.a", "looks a", "looks .e", "looks .abcdab", "looks ..", "looks ..a", "looks .a\r", "looks .A", "looks .\xff", "looks abcd", "looks -1", "looks .ä", "looks e",
		"put", "put .a", "put .a 01", "put .a 1 ", "put .a 1000", "put .a -1", "put .e 1", "put a 1", "put .a 1\r", "take", "take a", "take .a 1", "take .e", "hold 1", "hold ", "hold\r", "free", "free 1000", "free -1", "free x", "down 0", "down ", "join", "join 1000", "join -1", "join .a",
		"\x00", "\xff", "é", "世界", "\xe4\xb8", "get\x00.a", "hold\x00", "\ufeffhold", "hold\v", "hold\f", "hold\u2028hold", "hold;hold", "hold hold",
	}
	return slices.DeleteFunc(lines, func(line string) bool { return line == "" })
}

// noneLines is lines by which nothing is found, whatever is there.
func noneLines() []string {
	return []string{
		"get a", "get ", "get ab", "get .e", "get ..", "get ..a", "get .a.", "get .abcdab", "get .A", "get .\xff", "get \xff", "get .a\r", "get .ä", "get -", "get e", "get 1", "get get", "get .a\t", "get .-", "get -a",
		"was a 1", "was  ", "was  1", "was a ", "was .e 1", "was ..a 1", "was .abcdab 1", "was .a ", "was .a 0", "was .a x", "was .a .", "was .a .b", "was .a 1000", "was .a 9999", "was .a 999999999999999999999999", "was 1 .a", "was .a 18446744073709551617", "was .a 4294967297", "was .a 65537", "was .a 257", "was .a 1025", "was .a ٣", "was - 1", "was .- 1",
	}
}

// allLines is lines by which nothing is listed, whatever is there.
func allLines() []string {
	return []string{"all a .d", "all .a d", "all a d", "all  ", "all . ", "all  .d", "all .e .d", "all . .e", "all . .abcdab", "all .. .d", "all .. ..", "all .b .a", "all .a .", "all .ddddd .", "all .a \xff", "all .\x00 .d", "all .a .d\r", "all - .d", "all . z", "all .- .d", "all . .z", "all .A .d", "all e f"}
}

// mixedLine is a line without a pattern, the same on each run.
func mixedLine(letters, seed uint32) string {
	keys, num := mixedKeys(2, letters, seed), int(seed>>9)
	switch n := seed >> 20 % 100; {
	case n < 34:
		return fmt.Sprintf("put .%s %d", keys[0], num%103)
	case n < 43:
		return "take ." + keys[0]
	case n < 49:
		return "hold"
	case n < 54:
		return fmt.Sprint("free ", num%12)
	case n < 60:
		return "down"
	case n < 67:
		return fmt.Sprint("join ", num%5/2)
	case n < 75:
		return "get ." + keys[0]
	case n < 82:
		return fmt.Sprintf("was .%s %s%d", keys[0], []string{"", "t", "0"}[num%3], num%14)
	case n < 85:
		return fmt.Sprintf("all .%s .%s", keys[0], keys[1])
	case n < 88:
		return "all . .ddddd"
	case n < 93:
		return "looks ." + keys[1]
	case n < 95:
		return ""
	}
	odd := slices.Concat(whatLines(), noneLines(), allLines())
	return odd[num%len(odd)]
}

// mixedScript is lines without a pattern, the same on each run, that take at most n bytes as a script.
func mixedScript(n int, letters, seed uint32) []string {
	var lines []string
	for {
		seed = seed*1664525 + 1013904223
		line := mixedLine(letters, seed)
		n -= len(line) + 1
		if n < 0 {
			return lines
		}
		lines = append(lines, line)
	}
}

// deepScript writes one key, or a few, and moves what is written down to each level, with held times.
func deepScript(keys ...string) []string {
	var lines []string
	for i, moves := range [][]string{{"hold", "down", "join 0", "join 1"}, {"hold", "down", "join 0"}, {"hold", "down"}, nil} {
		for j, k := range keys {
			lines = append(lines, putText(k, 10*i+j))
		}
		lines = append(lines, moves...)
	}
	return lines
}

// putScript is puts of the n shortest keys.
func putScript(n int) []string {
	keys := allKeys()
	slices.SortStableFunc(keys, func(a, b string) int { return len(a) - len(b) })
	var lines []string
	for i, k := range keys[:n] {
		lines = append(lines, putText(k, i%10))
	}
	return lines
}

// someScripts is scripts of all kinds, as lines. They are made once; who changes one copies it first.
var someScripts = sync.OnceValue(func() [][]string {
	scripts := [][]string{nil, {""}, {"", "", ""}, {"hold"}, deepScript("a"), deepScript("", "ab"), deepScript("a", "b", "c"), putScript(20), putScript(44), putScript(56), slices.Repeat([]string{"put . 0"}, 75), slices.Repeat([]string{"hold"}, 120)}
	for _, line := range slices.Concat(whatLines(), noneLines(), allLines()) {
		scripts = append(scripts, append(deepScript("a", ""), line, "all . .d"))
	}
	for seed := range uint32(300) {
		scripts = append(scripts, mixedScript(600-int(seed%7), seed%3+1, seed*77+3))
	}
	for seed := range uint32(100) {
		scripts = append(scripts, slices.Concat(deepScript("a", "aa"), mixedScript(200+int(seed), seed%2+1, seed*31+1)))
	}
	return scripts
})

// shortScripts is some of them, with room for n bytes more.
func shortScripts(n int) [][]string {
	var short [][]string
	for i, lines := range someScripts() {
		for len(scriptOf(lines...)) > 600-n {
			lines = lines[:len(lines)-1]
		}
		if i%3 == 0 || i < 11 {
			short = append(short, lines)
		}
	}
	return short
}

// filledLines is lines without the empty ones.
func filledLines(lines []string) []string {
	return slices.DeleteFunc(slices.Clone(lines), func(line string) bool { return line == "" })
}

// isQuery says whether a line is none that changes a store.
func isQuery(line string) bool {
	_, ok := plainDeed(line)
	return !ok
}

// putText is the text of a put of a number.
func putText(k string, num int) string {
	return fmt.Sprintf("put .%s %d", k, num)
}

func TestScriptsThatAreWrittenOut(t *testing.T) {
	for _, c := range []struct{ script, want string }{
		{"", ""}, {"\n", ""}, {"\n\n\n", ""}, {"hold", "done 0\n"}, {"hold\n", "done 0\n"}, {"\nhold\n\n\nhold", "done 0\ndone 0\n"}, {"\r\n", "what\n"}, {"hold\r\n", "what\n"}, {"hold\r\nhold", "what\ndone 0\n"}, {" \n", "what\n"}, {" ", "what\n"},
		{"put .a 3", "done 1\n"}, {"put .a 99\nget .a", "done 1\n99\n"}, {"put .a 100\nget .a", "not done\nnone\n"}, {"put .a 999\n", "not done\n"}, {"put .a 1000\n", "what\n"}, {"put . 0\nget .\nall . .", "done 1\n0\nall . 0\n"},
		{"take .a\nget .a", "done 1\nnone\n"}, {"put .a 3\ntake .a\nget .a\nall .a .a", "done 1\ndone 2\nnone\nall\n"}, {"take .\ntake .e", "done 1\nwhat\n"},
		{"down\njoin 0\njoin 1\njoin 2\njoin 3\njoin 999\njoin 1000", "done 0\ndone 0\ndone 0\nnot done\nnot done\nnot done\nwhat\n"},
		{"free 0\nhold\nhold\nfree 0\nfree 0\nfree 999\nfree 1000", "not done\ndone 0\ndone 0\ndone 0\nnot done\nnot done\nwhat\n"},
		{"hold\nput . 1\nhold\nput . 2\nhold\nput . 3\nhold\nfree 1\nhold", "done 0\ndone 1\ndone 1\ndone 2\ndone 2\ndone 3\nnot done\ndone 3\ndone 3\n"},
		{"put .a 3\nput .a 4\nwas .a 1\nwas .a 2\nhold\nput .a 5\nwas .a 2\nwas .a 1\nwas .a 3\nwas .a 4\nget .a", "done 1\ndone 2\nnone\n4\ndone 2\ndone 3\n4\nnone\n5\nnone\n5\n"},
		{"put .b 1\nput .a 2\nput .ab 3\nput . 4\nput .b 5\nall . .d\nall .a .ab\nall .aa .b\nall .c .d\nall .b .b\nall .b .a", "done 1\ndone 2\ndone 3\ndone 4\ndone 5\nall . 4 .a 2 .ab 3 .b 5\nall .a 2 .ab 3\nall .ab 3 .b 5\nall\nall .b 5\nall\n"},
		{"put .a 1\nlooks .a\ndown\nlooks .a\nlooks .b\nlooks .\nput .a 2\njoin 0\ndown\nlooks .a\njoin 1\nlooks .a\nhold\ntake .a\ndown\njoin 0\njoin 1\nlooks .a", "done 1\nlooks 0\ndone 1\nlooks 1\nlooks 0\nlooks 0\ndone 2\ndone 2\ndone 2\nlooks 2\ndone 2\nlooks 2\ndone 2\ndone 3\ndone 3\ndone 3\ndone 3\nlooks 1\n"},
	} {
		isAnswered(t, c.script, c.want)
		isAnswered(t, c.script, plainAnswers(c.script))
	}
}

// The filters of the store keep one letter more than what tells keys apart.
func TestLooksOfKeysThatAFilterCannotTellApart(t *testing.T) {
	lines := []string{"put .a 1", "put .abc 2", "put .abd 3", "put .cda 4", "looks .cda", "down"}
	for k, n := range map[string]int{"a": 1, "abc": 1, "abca": 0, "ab": 0, "cda": 1, "cdb": 1, "cd": 1, "cdaaa": 1, "c": 0, "ca": 0, "": 0, "d": 0} {
		answers := answersTo(t, append(slices.Clone(lines), "looks ."+k)...)
		if want := fmt.Sprint("looks ", n); answers[4] != "looks 0" || answers[6] != want {
			t.Errorf("after %q, looks of %q is %q, not %q", lines, k, answers[6], want)
		}
	}
}

func TestScriptsAreAnsweredAsTheDocumentSays(t *testing.T) {
	all := map[string]int{}
	for _, lines := range someScripts() {
		script := scriptOf(lines...)
		want := plainAnswers(script)
		isAnswered(t, script, want)
		isAnswered(t, strings.TrimSuffix(script, "\n"), plainAnswers(strings.TrimSuffix(script, "\n")))
		for _, answer := range strings.Split(want, "\n") {
			kind, rest, _ := strings.Cut(answer, " ")
			if regexp.MustCompile(`^\d+$`).MatchString(kind) {
				kind = "value"
			}
			if rest != "" && kind != "done" {
				kind += " something"
			}
			all[kind]++
		}
	}
	for _, kind := range []string{"done", "not something", "value", "none", "all", "all something", "looks something", "what"} {
		if all[kind] < 200 {
			t.Error("too few answers:", kind, all[kind])
		}
	}
}

func TestLinesThatAreNoCommand(t *testing.T) {
	for _, line := range whatLines() {
		isAnswered(t, line, "what\n")
		isAnswered(t, line+"\n", "what\n")
		lines := append(deepScript("a", ""), line, "get .a", "hold")
		if answers := answersTo(t, lines...); answers[len(answers)-3] != "what" {
			t.Errorf("%q is answered by %q", line, answers[len(answers)-3])
		}
	}
}

// A line of bytes of each kind, in front of a command, behind it, and within it.
func TestLinesWithOtherBytes(t *testing.T) {
	for _, line := range []string{"put .a 4", "take .a", "hold", "free 1", "down", "join 0", "get .a", "was .a 2", "all .a .b", "looks .a"} {
		for c := range 256 {
			b := string([]byte{byte(c)})
			if b == "\n" {
				continue
			}
			for at := range len(line) + 1 {
				script := scriptOf("put .a 1", "hold", "put .b 2", line[:at]+b+line[at:], "all . .d")
				isAnswered(t, script, plainAnswers(script))
			}
		}
		for at := range line {
			script := scriptOf("put .a 1", "hold", "put .b 2", line[:at]+line[at+1:], line[:at], line[at:], "all . .d")
			isAnswered(t, script, plainAnswers(script))
		}
	}
}

func TestKeysByWhichNothingIsFound(t *testing.T) {
	start := []string{"put . 1", "put .a 2", "put .ab 3", "hold", "put .e 4", "down"}
	for _, lines := range [][]string{start, {"down"}, deepScript("a", "")} {
		for want, all := range map[string][]string{"none": noneLines(), "all": allLines()} {
			for _, line := range all {
				answers := answersTo(t, append(slices.Clone(lines), line)...)
				if answers[len(lines)] != want {
					t.Errorf("after %q, %q is answered by %q, not %q", lines, line, answers[len(lines)], want)
				}
			}
		}
	}
	for _, k := range notKeys() {
		if strings.ContainsAny(k, " \n") || len(k) > 100 {
			continue
		}
		answers := answersTo(t, "put .a 2", "hold", "put ."+k+" 1", "take ."+k, "get ."+k, "was ."+k+" 1", "all ."+k+" .d", "all . ."+k, "looks ."+k, "all . .d")
		if want := []string{"done 1", "done 1", "what", "what", "none", "none", "all", "all", "what", "all .a 2"}; !slices.Equal(answers, want) {
			t.Errorf("of %q the answers are %q", k, answers)
		}
	}
}

// The digits of a word are those of a time, wherever they stand.
func TestWordsThatAreTimes(t *testing.T) {
	var lines []string
	for num := 1; num <= 13; num++ {
		lines = append(lines, putText("a", num))
		if num == 1 || num == 12 {
			lines = append(lines, "hold")
		}
	}
	zeros := strings.Repeat("0", 200)
	for word, want := range map[string]string{
		"1": "1", "12": "12", "13": "13", "2": "none", "11": "none", "14": "none", "0": "none", "": "none", "x": "none", ".": "none", "-": "none", "١": "none", "１": "none", "²": "none", "\xff": "none",
		"01": "1", "001": "1", zeros + "1": "1", zeros + "12": "12", "1" + zeros: "none", zeros: "none", "-1": "1", "+1": "1", "-12": "12", "t1": "1", "1t": "1", "x1y2z": "12", "1.2": "12", ".1": "1", "1,3": "13", "1e3": "13", "1\x00": "1", "1\r": "1", "\xff1\xff3": "13", "1\t2": "12", "é1": "1", "1:2": "12", "1/3": "13", "time13": "13",
		"1000": "none", "1001": "none", "1012": "none", "113": "none", "121": "none", "131": "none", "257": "none", "65537": "none", "4294967297": "none", "18446744073709551617": "none", "18446744073709551628": "none", "340282366920938463463374607431768211457": "none", strings.Repeat("9", 200): "none", strings.Repeat("1", 200): "none", strings.Repeat("12", 100): "none",
	} {
		answers := answersTo(t, append(slices.Clone(lines), "was .a "+word)...)
		if answer := answers[len(lines)]; answer != want {
			t.Errorf("at %q, a has %q, not %q", word, answer, want)
		}
	}
	isAnswered(t, scriptOf("was . 0", "hold", "was . 0", "was . x", "put . 7", "was . 0", "was . x", "was . 1", "was . y1"), scriptOf("none", "done 0", "none", "none", "done 1", "none", "none", "7", "7"))
}

func TestTimesThatWereFreed(t *testing.T) {
	lines := []string{"put .a 1", "hold", "put .a 2", "was .a 1", "free 1", "was .a 1", "free 1", "was .a 2", "hold", "free 2", "was .a 2", "get .a", "put .a 3", "was .a 2", "was .a 3"}
	want := []string{"done 1", "done 1", "done 2", "1", "done 2", "none", "not done", "2", "done 2", "done 2", "2", "2", "done 3", "none", "3"}
	if answers := answersTo(t, lines...); !slices.Equal(answers, want) {
		t.Errorf("%q is answered by %q", lines, answers)
	}
	for _, moves := range [][]string{{"down"}, {"down", "join 0"}, {"down", "join 0", "join 1"}} {
		lines := slices.Concat([]string{"put .a 1", "hold", "take .a"}, moves, []string{"was .a 1", "get .a", "free 1", "was .a 1", "hold", "was .a 2"}, moves, []string{"was .a 1", "get .a", "all . .d"})
		script := scriptOf(lines...)
		isAnswered(t, script, plainAnswers(script))
	}
}

// What is newest stands highest, and what is deleted there hides what is below.
func TestAKeyOnEachLevel(t *testing.T) {
	lines := append(deepScript("a"), "get .a", "was .a 1", "was .a 2", "was .a 3", "was .a 4", "looks .a", "down", "get .a", "was .a 1", "was .a 2", "was .a 3", "take .a", "get .a", "was .a 3", "down", "get .a", "was .a 3", "was .a 1", "all . .d")
	want := []string{"done 1", "done 1", "done 1", "done 1", "done 1", "done 2", "done 2", "done 2", "done 2", "done 3", "done 3", "done 3", "done 4", "30", "0", "10", "20", "30", "looks 3", "done 4", "30", "0", "10", "20", "done 5", "none", "20", "done 5", "none", "20", "0", "all"}
	// How the searches of the levels take turns is not to be seen in any answer.
	for range 300 {
		if answers := answersTo(t, lines...); !slices.Equal(answers, want) {
			t.Fatalf("%q is answered by %q, not %q", lines, answers, want)
		}
	}
}

func TestOperationsThatAreNotPossibleInAScript(t *testing.T) {
	full := append(putScript(46), "down", "join 0", "join 1", "take .", "hold", "all .dd .ddddd")
	answers := answersTo(t, full...)
	if !slices.Equal(answers[42:], []string{"done 43", "done 44", "not done", "not done", "not done", "not done", "not done", "not done", "done 44", "all .dd 0"}) {
		t.Errorf("%q is answered by %q", full, answers)
	}
	for _, line := range []string{"put .a 100", "put . 999", "free 0", "free 3", "free 999", "join 2", "join 3", "join 999"} {
		lines := []string{"put .a 1", line, "put .b 2", line, line, "hold", "all . .d"}
		if answers := answersTo(t, lines...); !slices.Equal(answers, []string{"done 1", "not done", "done 2", "not done", "not done", "done 2", "all .a 1 .b 2"}) {
			t.Errorf("%q is answered by %q", lines, answers)
		}
	}
	held := []string{"hold", "put . 1", "hold", "put . 2", "hold", "put . 3", "hold", "hold", "was . 1", "was . 3", "free 0", "hold", "put . 4", "was . 3"}
	if answers := answersTo(t, held...); !slices.Equal(answers, []string{"done 0", "done 1", "done 1", "done 2", "done 2", "done 3", "not done", "not done", "1", "3", "done 3", "done 3", "done 4", "3"}) {
		t.Errorf("%q is answered by %q", held, answers)
	}
}

// A script has no limit but its bytes: DeedMax is one of PastDo.
func TestScriptsOfMoreThanDeedMaxOperations(t *testing.T) {
	want := ""
	for n := range 75 {
		want += fmt.Sprintf("done %d\n", n+1)
	}
	isAnswered(t, strings.Repeat("put . 0\n", 75), want)
	isAnswered(t, strings.Repeat("take .\n", 85), want+scriptOf("done 76", "done 77", "done 78", "done 79", "done 80", "done 81", "done 82", "done 83", "done 84", "done 85"))
	isAnswered(t, strings.Repeat("hold\n", 120), strings.Repeat("done 0\n", 120))
}

func TestLinesMaxIsInclusive(t *testing.T) {
	for _, part := range []string{"\n", "x", " ", "hold\n", "put . 0\n", "x\n", "\x00", "\xff", "é", "\r\n", "get .\n", "looks .a\n"} {
		text := strings.Repeat(part, 700)
		for _, n := range []int{0, 1, 599, 600} {
			isAnswered(t, text[:n], plainAnswers(text[:n]))
		}
		for _, n := range []int{601, 602, 700} {
			isAnswered(t, text[:n], "too long\n")
		}
		isAnswered(t, strings.Repeat(part, 100000), "too long\n")
	}
	isAnswered(t, "hold\n"+strings.Repeat("\n", 595), "done 0\n")
	isAnswered(t, "hold\n"+strings.Repeat("\n", 596), "too long\n")
	isAnswered(t, strings.Repeat("x", 596)+"\nget", "what\nwhat\n")
	isAnswered(t, "was . "+strings.Repeat("0", 594), "none\n")
	isAnswered(t, "was . "+strings.Repeat("0", 595), "too long\n")
	isAnswered(t, string(make([]byte, 600)), "what\n")
}

// Promise 95, in a script: the time goes on by one with what is written, and with nothing else.
func TestAnOperationInAScriptUsesAtMostOneTime(t *testing.T) {
	done := 0
	for _, lines := range someScripts() {
		lines = filledLines(lines)
		time := 0
		for i, answer := range answersTo(t, lines...) {
			if isQuery(lines[i]) || answer == "not done" {
				continue
			}
			if strings.HasPrefix(lines[i], "put") || strings.HasPrefix(lines[i], "take") {
				time++
			}
			if answer != fmt.Sprint("done ", time) {
				t.Fatalf("of %q, %q is answered by %q, not at %d", lines, lines[i], answer, time)
			}
			done++
		}
	}
	if done < 1000 {
		t.Error("too little is done:", done)
	}
}

// Promise 96.
func TestTheAnswersToTheFirstLinesDoNotDependOnTheRest(t *testing.T) {
	others := [][]string{{"take .a", "all . .d"}, {"x"}, {"", ""}, {"free 1", "join 0", "down"}}
	for i, lines := range shortScripts(30) {
		whole := impl.LinesRun(scriptOf(lines...))
		for n := range len(lines) + 1 {
			first := impl.LinesRun(scriptOf(lines[:n]...))
			if !strings.HasPrefix(whole, first) || strings.Count(first, "\n") != len(filledLines(lines[:n])) {
				t.Fatalf("%q is answered by %q, but its first %d lines by %q", lines, whole, n, first)
			}
			other := impl.LinesRun(scriptOf(slices.Concat(lines[:n], others[(i+n)%4])...))
			if !strings.HasPrefix(other, first) {
				t.Fatalf("the first %d lines of %q are answered by %q, and with another rest by %q", n, lines, first, other)
			}
		}
	}
}

// Promise 97.
func TestEmptyLinesAreNotAnswered(t *testing.T) {
	for n := range 601 {
		isAnswered(t, strings.Repeat("\n", n), "")
	}
	for i, lines := range shortScripts(120) {
		want := impl.LinesRun(scriptOf(filledLines(lines)...))
		if n := strings.Count(want, "\n"); n != len(filledLines(lines)) {
			t.Errorf("%q has %d answers: %q", lines, n, want)
		}
		script := scriptOf(lines...)
		isAnswered(t, script, want)
		isAnswered(t, strings.TrimSuffix(script, "\n"), want)
		isAnswered(t, "\n\n"+script+"\n", want)
		for at := range script {
			if script[at] == '\n' && at%3 == i%3 {
				isAnswered(t, script[:at]+strings.Repeat("\n", 1+at%4)+script[at:], want)
			}
		}
		isAnswered(t, strings.ReplaceAll(script, "\n", "\n\n"), plainAnswers(strings.ReplaceAll(script, "\n", "\n\n")))
	}
}

// Promise 98.
func TestQueriesChangeNothing(t *testing.T) {
	queries := slices.Concat(noneLines(), allLines(), whatLines(), []string{"get .a", "get .", "was .a 1", "was .ab 3", "all . .ddddd", "all .a .b", "looks .a", "looks .ddddd"})
	for i, lines := range shortScripts(110) {
		lines = filledLines(lines)
		want := answersTo(t, lines...)
		for at := range len(lines) + 1 {
			query := queries[(at*7+i)%len(queries)]
			answers := answersTo(t, slices.Concat(lines[:at], []string{query, query}, lines[at:])...)
			if answers[at] != answers[at+1] {
				t.Fatalf("after %q, %q is answered by %q and then by %q", lines[:at], query, answers[at], answers[at+1])
			}
			if others := slices.Delete(answers, at, at+2); !slices.Equal(others, want) {
				t.Fatalf("%q is answered by %q, and with %q ahead of line %d by %q", lines, want, query, at, others)
			}
		}
		left := slices.DeleteFunc(slices.Clone(lines), isQuery)
		done := answersTo(t, left...)
		for j := range lines {
			if !isQuery(lines[j]) {
				if done[0] != want[j] {
					t.Fatalf("of %q, %q is answered by %q, and without queries by %q", lines, lines[j], want[j], done[0])
				}
				done = done[1:]
			}
		}
	}
}

// Promise 99.
func TestAKeyThatIsWrittenAndThenDeletedIsAbsent(t *testing.T) {
	absent := 0
	between := [][]string{nil, {"down"}, {"hold"}, {"down", "join 0"}, {"hold", "down", "join 0", "join 1"}, {"x", "get .a"}}
	for i, lines := range shortScripts(150) {
		lines = filledLines(lines)
		for j, k := range []string{"a", "", "ddddd", "aa"} {
			more := slices.Concat(lines, []string{putText(k, 7)}, between[(i+j)%6], []string{"take ." + k}, between[(i+j/2)%6])
			answers := answersTo(t, append(slices.Clone(more), "get ."+k, "all ."+k+" ."+k)...)
			taken := len(lines) + 1 + len(between[(i+j)%6])
			if answers[len(lines)] == "not done" || answers[taken] == "not done" {
				continue
			}
			if n := len(more); answers[n] != "none" || answers[n+1] != "all" {
				t.Fatalf("after %q, %q is there: %q", more, k, answers[n:])
			}
			absent++
		}
	}
	if absent < 300 {
		t.Error("too few keys:", absent)
	}
}

// Promise 100.
func TestPushingAndJoiningDoNotChangeWhatIsListed(t *testing.T) {
	listed := 0
	queries := []string{"all . .ddddd", "all .a .c", "get .a", "get .", "was .a 1", "was .aa 4"}
	moves := [][]string{{"down"}, {"join 0"}, {"join 1"}, {"down", "join 0"}, {"down", "join 0", "join 1"}, {"join 1", "join 0", "down"}, {"down", "down", "join 1", "join 0", "join 1"}, {"join 2", "join 0", "join 0"}}
	for i, lines := range shortScripts(150) {
		lines = filledLines(lines)
		want := answersTo(t, slices.Concat(lines, queries)...)[len(lines):]
		for j, few := range moves {
			if (i+j)%2 > 0 {
				continue
			}
			if answers := answersTo(t, slices.Concat(lines, few, queries)...)[len(lines)+len(few):]; !slices.Equal(answers, want) {
				t.Fatalf("after %q, %q are answered by %q, and after %q by %q", lines, queries, want, few, answers)
			}
			listed += strings.Count(want[0], ".")
		}
	}
	if listed < 1000 {
		t.Error("too little is listed:", listed)
	}
}

// No function keeps anything between calls, and calls that are made at the same time do not get in each other's way.
func TestTheSameScriptIsAlwaysToldTheSame(t *testing.T) {
	scripts := shortScripts(0)
	wants := make([]string, len(scripts))
	for i, lines := range scripts {
		wants[i] = plainAnswers(scriptOf(lines...))
	}
	var calls sync.WaitGroup
	for start := range 8 {
		calls.Go(func() {
			for i := range scripts {
				at := (i + start*13) % len(scripts)
				if got := impl.LinesRun(scriptOf(scripts[at]...)); got != wants[at] {
					t.Errorf("%q is told %q, not %q", scripts[at], got, wants[at])
				}
			}
		})
	}
	calls.Wait()
}

func TestLineFunctionsKeepNoState(t *testing.T) {
	script := scriptOf(append(deepScript("a", "b"), "get .a", "was .b 2", "all . .d")...)
	want := plainAnswers(script)
	for _, text := range append(fewDeedTexts(), whatLines()...) {
		d, ok := plainDeed(text)
		impl.LinesRun(text)
		impl.DeedRead(strings.Repeat(text, 9))
		impl.LinesRun(strings.Repeat(text, 601))
		impl.DeedText(impl.Deed{Kind: 9, Key: text})
		if isReadAs(t, text) != ok || ok && impl.DeedText(d) != text {
			t.Errorf("%q is read as %v, %v", text, d, ok)
		}
		isAnswered(t, script, want)
	}
}

// All goroutines have been joined when the answers are there; one that is told to be done may still be on its way out.
func TestNoGoroutineIsLeft(t *testing.T) {
	script := scriptOf(append(deepScript("a"), slices.Repeat([]string{"get .a", "was .a 1", "get .b"}, 15)...)...)
	before := runtime.NumGoroutine()
	for range 100 {
		impl.LinesRun(script)
	}
	for wait := 0; runtime.NumGoroutine() > before && wait < 100000; wait++ {
		runtime.Gosched()
	}
	if after := runtime.NumGoroutine(); after > before {
		t.Errorf("there were %d goroutines, and there are %d", before, after)
	}
}
