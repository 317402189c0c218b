package tests

import (
	"fmt"
	"math/rand"
	"regexp"
	"slices"
	"strconv"
	"strings"
	"sync"
	"testing"

	"loop.example/g00196/impl"
)

// deskForm is the form of what is asked at the desk: a word with its numbers.
var deskForm = regexp.MustCompile(`\A(?:(?:step|mark|back|clock) (?:0|[1-9][0-9]{0,5}) (?:0|[1-9][0-9]{0,5})|(?:begin|out) (?:0|[1-9][0-9]{0,5})|full|picture)\z`)

// wantLines are the lines of a text, told once more.
func wantLines(text string) []string {
	if text == "" {
		return nil
	}
	return strings.Split(strings.TrimSuffix(text, "\n"), "\n")
}

// wantLoad is Load, told once more: the text is parted into programs first, and these into lines.
func wantLoad(text string) (impl.Sys, int) {
	progs := [][]impl.Ins{nil}
	for i, line := range wantLines(text) {
		if line == "--" {
			progs = append(progs, nil)
			continue
		}
		if !lineForm.MatchString(line) {
			return impl.Sys{}, i + 1
		}
		x, _ := impl.InsRead(line)
		progs[len(progs)-1] = append(progs[len(progs)-1], x)
	}
	if len(text) > 12000 || len(progs) > 4 || !wantSysOk(wantNew(progs...)) {
		return impl.Sys{}, -1
	}
	return wantNew(progs...), 0
}

// codeWord is what is said of a code.
func codeWord(word string, code int) string {
	words := map[string][]string{
		"step":  {"ok", "", "none", "wait", "full", "mark", "over"},
		"begin": {"ok", "", "none", "on", "", "full"},
		"mark":  {"ok", "", "none", "", "nomark", "full"},
		"back":  {"ok", "", "none", "full"},
	}
	return words[word][code]
}

// spaced tells numbers with a blank between each two.
func spaced(nums []int) string {
	if len(nums) == 0 {
		return "nothing"
	}
	return strings.Trim(fmt.Sprint(nums), "[]")
}

// wantLine is Line, told once more, by what is told once more of the chapters that it asks.
func wantLine(l impl.Live, line string) (impl.Live, string) {
	switch {
	case !wantLiveOk(l):
		return l, "bad"
	case line == "" || strings.HasPrefix(line, ";"):
		return l, ""
	case !deskForm.MatchString(line):
		return l, "what"
	}
	words := append(strings.Split(line, " "), "0", "0")
	a, _ := strconv.Atoi(words[1])
	b, _ := strconv.Atoi(words[2])
	switch words[0] {
	case "out":
		if a >= len(l.S.States) {
			return l, "nothing"
		}
		return l, spaced(l.S.States[a].Out)
	case "clock":
		return l, spaced(tellingOf(l.S).clock(one{a, b}))
	case "full":
		return l, spaced(counts(l.S))
	case "picture":
		if _, ok := wantPicture(l); ok {
			return l, "yes"
		}
		return l, "no"
	case "back":
		if l.Shot.On {
			return l, "on"
		}
		then, code := tellingOf(l.S).back(a, b)
		return live(then), codeWord("back", code)
	}
	after, code := turn{words[0], a, b}.told(l)
	return after, codeWord(words[0], code)
}

// wantSession is Session, told once more.
func wantSession(text, lines string) (string, int) {
	s, how := wantLoad(text)
	list := wantLines(lines)
	switch {
	case how != 0 || len(lines) > 12000:
		return "", -1
	case len(list) > 120:
		return "", -2
	}
	l, said, all := live(s), "", ""
	for _, line := range list {
		if l, said = wantLine(l, line); said != "" {
			all += said + "\n"
		}
	}
	return all, len(list)
}

// holdLoad holds Load against what is told once more and against what is said of it, and answers the system.
func holdLoad(t *testing.T, what, text string, how int) impl.Sys {
	t.Helper()
	want, told := wantLoad(text)
	if told != how {
		t.Fatalf("%s: told once more Load(%.200q) is %d, not %d", what, text, told, how)
	}
	got, code := impl.Load(text)
	if code != how || !sameSys(got, want) || code != 0 && !isZeroSys(got) {
		t.Fatalf("%s: Load(%.200q) is %+v, %d, not %+v, %d", what, text, got, code, want, how)
	}
	if how == 0 && !impl.SysOk(got) {
		t.Fatalf("%s: Load(%.200q) is not right: %+v", what, text, got)
	}
	return got
}

// holdLine holds Line against what is told once more and against what is said of it, and answers what is behind it.
func holdLine(t *testing.T, what string, l impl.Live, line, said string) impl.Live {
	t.Helper()
	want, told := wantLine(l, line)
	if told != said {
		t.Fatalf("%s: told once more %.80q tells %q, not %q, of %+v", what, line, told, said, l)
	}
	got, tells := impl.Line(l, line)
	if tells != said || !sameLive(got, want) {
		t.Fatalf("%s: Line(%+v, %.80q) is %+v, %q, not %+v, %q", what, l, line, got, tells, want, said)
	}
	if said != "ok" && !sameLive(got, l) {
		t.Fatalf("%s: %.80q tells %q, and it is not as it was: %+v", what, line, said, got)
	}
	if said != "bad" && !impl.LiveOk(got) {
		t.Fatalf("%s: behind %.80q it is not right: %+v", what, line, got)
	}
	return got
}

// holdLines holds lines one behind the other, each with what it tells behind a `>`.
func holdLines(t *testing.T, what string, l impl.Live, list ...string) impl.Live {
	t.Helper()
	for _, x := range list {
		line, said, _ := strings.Cut(x, " > ")
		l = holdLine(t, what, l, line, said)
	}
	return l
}

// holdSession holds Session against what is told once more and against how many lines are said of it, and answers what it tells.
func holdSession(t *testing.T, what, text, lines string, n int) string {
	t.Helper()
	want, told := wantSession(text, lines)
	if told != n {
		t.Fatalf("%s: told once more Session(%.200q, %.200q) is %d, not %d", what, text, lines, told, n)
	}
	said, count := impl.Session(text, lines)
	if said != want || count != n || n < 0 && said != "" {
		t.Fatalf("%s: Session(%.200q, %.200q) is %q, %d, not %q, %d", what, text, lines, said, count, want, n)
	}
	return said
}

// textOf is the text of programs.
func textOf(progs [][]impl.Ins) string {
	parts := []string{}
	for _, list := range progs {
		part := ""
		for _, x := range list {
			part += impl.InsText(x) + "\n"
		}
		parts = append(parts, part)
	}
	return strings.Join(parts, "--\n")
}

// pairText is that of pair.
const pairText = "set 0 5\nsend 1 0\nset 0 6\nsend 1 0\nset 0 7\nsend 1 0\ntake 1 1\nprint 1\nend\n--\ntake 0 any\nsend 0 0\ntake 2 0\nend\n"

func TestLimitsOfTheDesk(t *testing.T) {
	if impl.MaxText != 12000 || impl.MaxLines != 120 {
		t.Error(impl.MaxText, impl.MaxLines)
	}
}

func TestLoadSpelledOut(t *testing.T) {
	if got := holdLoad(t, "two", pairText, 0); !sameSys(got, wantNew(pair(t)...)) {
		t.Errorf("%+v", got)
	}
	for _, text := range []string{"end", "end\n", "set 0 5\njump 0", "set 0 5\njump 0\n", "end\n--\nend", "end\n--\nend\n", "end\n--\nprint 3\n--\ntake 0 any\nsend 2 1\n--\njump 0"} {
		progs := [][]impl.Ins{}
		for _, part := range strings.Split(strings.TrimSuffix(text, "\n"), "\n--\n") {
			progs = append(progs, program(t, strings.Split(part, "\n")...))
		}
		if got := holdLoad(t, "spelled out", text, 0); !sameSys(got, wantNew(progs...)) {
			t.Errorf("Load(%q) is %+v", text, got)
		}
	}
}

func TestLoadOfEmptyTextsAndLines(t *testing.T) {
	holdLoad(t, "the empty text", "", -1)
	for text, how := range map[string]int{
		"\n": 1, "\n\n": 1, "\n\n\n": 1, "\nend": 1, "\nend\n": 1, "end\n\n": 2, "end\n\nend": 2, "end\nend\n\n": 3, "end\n\n\n": 2,
		"end\n--\n\n": 3, "end\n\n--\nend": 2, "end\n--\n\nend": 3, "--\n\n": 2, "\n--": 1, "end\n--\nend\n\n": 4,
	} {
		holdLoad(t, "empty lines", text, how)
	}
}

// A program that nothing stands in is not right, wherever it stands.
func TestLoadWhereProgramsPart(t *testing.T) {
	for _, text := range []string{
		"--", "--\n", "--\nend", "--\nend\n", "end\n--", "end\n--\n", "end\n--\n--\nend", "end\n--\n--\nend\n", "--\n--", "--\n--\n--\n--", "--\nend\n--", "end\n--\nend\n--", "end\n--\nend\n--\n", "--\nend\n--\nend\n",
	} {
		holdLoad(t, "parted", text, -1)
	}
	// Only the line as a whole parts.
	for text, how := range map[string]int{
		"end\n-- \nend": 2, "end\n --\nend": 2, "end\n---\nend": 2, "end\n-\nend": 2, "end\n-\n-\nend": 2, "end--\nend": 1, "end\n--end": 2, "end\n--\r\nend": 2, "end --\nend": 1, "end\n--;\nend": 2, "end\n\u2013\nend": 2, "----": 1,
	} {
		holdLoad(t, "not parted", text, how)
	}
}

func TestLoadOfLinesThatAreNone(t *testing.T) {
	right := []string{"set 0 5", "send 1 0", "print 0", "--", "take 1 any", "zero 1 0", "end", "--", "jump 0"}
	bad := []string{"", "fly", "set 0 05", "set 0 1000000001", "end ", " end", "End", ";", "; x", "-- ", "--;", "---", "full", "step 0 0", "take 0 4", "take 0 9", "send 9 0", "print 4", "jump 30", "end\r", "\x00", "\xff", "set 0 \xb2", "\u00e9nd"}
	for _, text := range []string{strings.Join(right, "\n"), strings.Join(right, "\n") + "\n"} {
		holdLoad(t, "as it is", text, 0)
	}
	for at := range len(right) + 1 {
		for _, line := range bad {
			list := slices.Insert(slices.Clone(right), at, line)
			holdLoad(t, "one", strings.Join(list, "\n")+"\n", at+1)
			if at < len(right) {
				list = slices.Clone(right)
				list[at] = line
				holdLoad(t, "one in the place of another", strings.Join(list, "\n")+"\n", at+1)
			}
			// Of two it is the first.
			for other := at + 1; other <= len(list); other += 2 {
				holdLoad(t, "two", strings.Join(slices.Insert(slices.Clone(list), other, "fly"), "\n"), at+1)
			}
		}
	}
}

// A line that is none is named ahead of all else that is wrong with a text.
func TestLoadWhichReasonComesFirst(t *testing.T) {
	for text, how := range map[string]int{
		"--\nfly": 2, "--\n--\n--\n--\n--\n--\nfly\n": 7, "end\n--\nfly": 3, "end\n--\n\n": 3, "jump 5\nfly": 2, "send 1 0\nfly\nend": 2,
		strings.Repeat("end\n", 31) + "fly":                      32,
		strings.Repeat("end\n--\n", 5) + "fly":                   11,
		strings.Repeat("end\n", 3000) + "fly":                    3001,
		strings.Repeat("--\n", 4000) + "\n":                      4001,
		"fly\n" + strings.Repeat("end\n", 3000):                  1,
		strings.Repeat("end\n", 1500) + strings.Repeat("x", 9e3): 1501,
	} {
		holdLoad(t, "two reasons", text, how)
	}
}

func TestLoadTextsMetAndPassed(t *testing.T) {
	for n := 11990; n <= 12010; n++ {
		holdLoad(t, "places", strings.Repeat("end\n", n/4)+strings.Repeat("end", (n%4)/3), -1)
		holdLoad(t, "programs", strings.Repeat("--\n", n/3), -1)
		holdLoad(t, "one line", strings.Repeat("x", n), 1)
		holdLoad(t, "one number", "set 0 "+strings.Repeat("9", n-6), 1)
		holdLoad(t, "empty lines", strings.Repeat("\n", n), 1)
		holdLoad(t, "behind what is right", "end\n"+strings.Repeat(" ", n-4), 2)
	}
	for _, n := range []int{100000, 3000000} {
		holdLoad(t, "very many places", strings.Repeat("end\n", n/4), -1)
		holdLoad(t, "very many programs", strings.Repeat("--\n", n/3), -1)
		holdLoad(t, "a very long line", strings.Repeat("9", n), 1)
		holdLoad(t, "very many blanks", strings.Repeat(" ", n), 1)
		holdLoad(t, "very many lines", strings.Repeat("\n", n), 1)
	}
}

func TestLoadProcessesAndPlacesMetAndPassed(t *testing.T) {
	for n := 1; n <= 7; n++ {
		how := 0
		if n > 4 {
			how = -1
		}
		for _, list := range [][]impl.Ins{ends(1, 0), ends(30, 29), program(t, "take 0 any", "jump 0")} {
			got := holdLoad(t, "processes", textOf(slices.Repeat([][]impl.Ins{list}, n)), how)
			if how == 0 && len(got.Progs) != n {
				t.Errorf("%d: %+v", n, got)
			}
		}
	}
	for places := 1; places <= 33; places++ {
		how := 0
		if places > 30 {
			how = -1
		}
		for n := 1; n <= 4; n++ {
			for p := range n {
				progs := slices.Repeat([][]impl.Ins{ends(2, 0)}, n)
				progs[p] = ends(places, 0)
				holdLoad(t, "places", textOf(progs), how)
			}
		}
	}
	// As long as it can be: the longest line at each of all places.
	progs := slices.Repeat([][]impl.Ins{slices.Repeat(program(t, "set 3 -1000000000"), 30)}, 4)
	holdLoad(t, "the longest", textOf(progs), 0)
}

// Each line is one, but not in such a program.
func TestLoadOfProgramsThatAreNotRight(t *testing.T) {
	for text, how := range map[string]int{
		"jump 1": -1, "jump 0": 0, "end\njump 1": 0, "end\njump 2": -1, "zero 0 1": -1, "zero 0 1\nend": 0, "jump 29": -1,
		"send 0 0": 0, "send 1 0": -1, "send 3 0": -1, "take 0 0": 0, "take 0 1": -1, "take 0 any": 0,
		"send 1 0\n--\nend": 0, "send 2 0\n--\nend": -1, "end\n--\nend\n--\nsend 2 2": 0, "end\n--\nend\n--\nsend 3 2": -1, "end\n--\ntake 0 2": -1,
		"end\n--\nend\n--\nend\n--\ntake 0 3": 0, "jump 1\n--\nend\nend": -1, "end\nend\n--\njump 2": -1,
	} {
		holdLoad(t, "not right", text, how)
	}
}

func TestLoadOfBytesThatAreNoCharacters(t *testing.T) {
	// Only the byte 10 ends a line, and whatever looks like it does not.
	for b := range 256 {
		text := "end" + string([]byte{byte(b)}) + "end"
		how := 1
		if b == 10 {
			how = 0
		}
		holdLoad(t, "between", text, how)
		holdLoad(t, "at the end", "end\nend"+string([]byte{byte(b)}), 2*how)
		holdLoad(t, "alone", string([]byte{byte(b)}), 1)
	}
	for _, odd := range []string{"\xc0\x8a", "\xe0\x80\x8a", "\u2028", "\u2029", "\u0085", "\u010a", "\u0a0a", "\U0001000a", "\r\n", "\xff", "\x80", "\xed\xa0\x80", "\xf4\x90\x80\x80", "\u00a0", "\ufeff", "\ufffd"} {
		holdLoad(t, "between", "end"+odd+"end", 1)
		holdLoad(t, "a line of its own", "end\n"+odd+"\nend", 2)
		holdLoad(t, "ahead", odd+"end\nend", 1)
		holdLoad(t, "behind", "end\nend\nend"+odd, 3)
		holdLoad(t, "ahead of one that is none", "end\n--\nend\n"+odd+"\n"+odd, 4)
	}
}

// What is written is read as it was.
func TestLoadOfWhatIsWritten(t *testing.T) {
	r := rand.New(rand.NewSource(110))
	for range 400 {
		n := r.Intn(4) + 1
		progs := [][]impl.Ins{}
		for range n {
			progs = append(progs, someTalk(r, n))
		}
		text := textOf(progs)
		for _, given := range []string{text, strings.TrimSuffix(text, "\n")} {
			if got := holdLoad(t, "written", given, 0); !sameSys(got, wantNew(progs...)) || textOf(got.Progs) != text {
				t.Fatalf("Load(%q) is %+v", given, got)
			}
		}
	}
}

// someLinesOf is a text by chance.
func someLinesOf(r *rand.Rand) string {
	lines := []string{"--", "--", "end", "jump 0", "jump 2", "send 0 0", "send 1 1", "take 0 any", "take 1 2", "set 0 5", "print 2"}
	if r.Intn(2) == 0 {
		lines = append(lines, "", "fly", "-", "set 0 05", "end ", "\xff")
	}
	text := ""
	for range r.Intn(10) {
		text += lines[r.Intn(len(lines))] + "\n"
	}
	if r.Intn(2) == 0 {
		text = strings.TrimSuffix(text, "\n")
	}
	return text
}

func TestLoadByChance(t *testing.T) {
	r := rand.New(rand.NewSource(111))
	seen := map[int]int{}
	for range 40000 {
		text := someLinesOf(r)
		_, how := wantLoad(text)
		holdLoad(t, "by chance", text, how)
		seen[min(how, 3)]++
	}
	for _, how := range []int{-1, 0, 1, 2, 3} {
		if seen[how] < 1000 {
			t.Error("few:", seen)
		}
	}
}

// deskLines are right, each with the numbers of its word.
func deskLines() []string {
	return []string{"step 0 0", "step 1 0", "step 0 1", "step 3 3", "begin 0", "begin 2", "mark 0 0", "mark 1 0", "mark 0 1", "back 0 0", "back 1 2", "back 2 1", "out 0", "out 1", "out 9", "clock 0 0", "clock 1 1", "clock 9 0", "full", "picture"}
}

// oddLines are none, whatever they are said to.
func oddLines() []string {
	return []string{
		"step", "step 0", "step 0 0 0", "begin", "begin 0 0", "mark", "mark 0", "mark 0 0 0", "back", "back 0", "back 0 0 0", "out", "out 0 0", "clock", "clock 0", "clock 0 0 0", "full 0", "picture 0", "picture 0 0",
		"step 00 0", "step 0 00", "step 01 0", "step 0 01", "begin 00", "begin 01", "begin 000000", "mark 0 010", "back 0 00", "back 00 0", "out 00", "out 01", "clock 0 07",
		"step 1000000 0", "step 0 1000000", "begin 1000000", "begin 9999999", "mark 0 1234567", "back 0 1000000", "out 0000000", "out 1000000", "clock 0 1000000", "out 4294967296", "out 9223372036854775808", "out 18446744073709551616", "clock 18446744073709551616 0", "begin " + strings.Repeat("0", 100000), "begin 1" + strings.Repeat("0", 100000),
		"step -1 0", "step 0 -1", "step +0 0", "begin -0", "begin +1", "begin -1", "mark 0 -0", "back 0 -1", "back 0 +1", "out -1", "out +0", "clock 0 -1", "out 0x0", "out 1e1", "out 0.0", "out 1_0", "out a", "out any", "begin any", "step 0 any", "out \u0660", "out \uff10", "out 0\u0660", "out \xff", "out 0\xff", "out \xb2", "out \u00b2",
		"step  0 0", "step 0  0", "begin  0", "out  0", "back 0  0", "step 0 0 ", "begin 0 ", "out 0 ", "clock 0 0 ", "full ", "picture ", "full  ", "mark 0 ", "begin ", "begin  ", "step  ", "step 0 ", "back  0",
		" step 0 0", " begin 0", " out 0", " full", " picture", "  full", " ", "  ", " 0", " ;", " ; x", " 0 0", "0", "0 0", "0 0 0", "7",
		"step\t0\t0", "step\t0 0", "out\u00a00", "out\u20030", "out\v0", "out\x000", "out\x00 0", "full\x00", "full\n", "full\r", "picture\n", "out 0\n", "out 0\r", "\nfull", "\n", "\r", "\x00", "full\nfull", "out 0;", "full;", "full ; x", "--", "\ufefffull", "f\xffull", "full\xff", "\xff", "\xfffull",
		"fly", "fly 0", "help", "go 0 0", "Step 0 0", "STEP 0 0", "Full", "FULL", "Begin 0", "end", "set 0 5", "print 0", "send 0 0", "take 0 any", "bad", "ok", "what", "nothing", "yes",
		"steps 0 0", "step0 0", "step00", "ste 0 0", "stepp 0 0", "beginn 0", "begins 0", "begi 0", "begin0", "marks 0 0", "mar 0 0", "mark0 0", "backs 0 0", "bac 0 0", "back0 0", "outs 0", "out0", "ou 0", "outt", "clocks 0 0", "cloc 0 0", "fully", "ful", "full0", "fu ll", "pictures", "pictur", "picture0", "s", "b", "f", "stepbegin 0", "fullpicture",
		strings.Repeat("full ", 20000), "step" + strings.Repeat(" 0", 100000), strings.Repeat(" ", 100000), strings.Repeat("x", 100000),
	}
}

func TestLinesThatAreNoneOfTheDesk(t *testing.T) {
	lives := someLives(t)
	for _, l := range []impl.Live{lives[0], lives[2], lives[4], lives[len(lives)-1], lives[len(lives)-4]} {
		for _, line := range oddLines() {
			holdLine(t, "none", l, line, "what")
		}
	}
}

func TestNumbersOfLinesMetAndPassed(t *testing.T) {
	l := live(underWay(t))
	for _, n := range []int{2, 3, 4, 5, 6, 7, 8, 9, 10, 11, 99, 100, 255, 256, 65536, 99999, 100000, 100001, 999998, 999999} {
		a := strconv.Itoa(n)
		holdLines(t, "six digits", l, "out "+a+" > nothing", "begin "+a+" > none", "mark 0 "+a+" > none", "mark "+a+" 0 > none", "step "+a+" 0 > none", "back "+a+" 0 > none", "clock "+a+" 0 > nothing")
		if n > 6 {
			holdLines(t, "six digits", l, "back 0 "+a+" > none", "clock 0 "+a+" > nothing")
		}
		// Of a local event nobody is asked.
		holdLines(t, "six digits", live(wantNew(pair(t)...)), "step 0 "+a+" > ok")
	}
	for _, n := range []int{1000000, 1000001, 9999999, 10000000, 999999999, 1 << 32, 1 << 62} {
		a := strconv.Itoa(n)
		holdLines(t, "seven digits", l, "out "+a+" > what", "begin "+a+" > what", "mark 0 "+a+" > what", "mark "+a+" 0 > what", "step "+a+" 0 > what", "step 0 "+a+" > what", "back "+a+" 0 > what", "back 0 "+a+" > what", "clock "+a+" 0 > what", "clock 0 "+a+" > what")
	}
}

func TestLinesThatTellNothing(t *testing.T) {
	for _, l := range someLives(t) {
		for _, line := range []string{"", ";", "; x", ";;", ";full", "; full", ";step 0 0", ";\n", ";\nfull", ";\xff", "; \u00e9", ";" + strings.Repeat("x", 100000)} {
			holdLine(t, "nothing", l, line, "")
		}
	}
}

// Of a live that is not right each line tells `bad`, and leaves it as it is.
func TestLinesOfWhatIsNotRight(t *testing.T) {
	lives := []impl.Live{{}, {Shot: impl.Shot{On: true, Cut: []int{1, 2}, Open: flags(true, 3), Kept: [][]int{{4}, nil, {5, 6}}}}}
	for _, s := range wrongSystems(t) {
		lives = append(lives, live(s), impl.Live{S: s})
	}
	l := live(underWay(t))
	begins(&l, 0)
	for _, l := range []impl.Live{l, live(underWay(t))} {
		lives = append(lives,
			butLive(l, func(l *impl.Live) { l.Shot.On = !l.Shot.On }),
			butLive(l, func(l *impl.Live) { l.Shot.Cut[1] = 99 }),
			butLive(l, func(l *impl.Live) { l.Shot.Cut = l.Shot.Cut[:1] }),
			butLive(l, func(l *impl.Live) { l.Shot.Open[1] = true }),
			butLive(l, func(l *impl.Live) { l.Shot.Kept[3] = []int{1} }),
			butLive(l, func(l *impl.Live) { l.S.States[0].At++ }),
			butLive(l, func(l *impl.Live) { l.S.Ways[1][0].V++ }))
	}
	lives = append(lives, butLive(live(underWay(t)), func(l *impl.Live) { l.S = marked(l.S) }))
	lines := slices.Concat(deskLines(), oddLines()[:60], []string{"", ";", "; x", "fly", "full"})
	for _, l := range lives {
		for _, line := range lines {
			holdLine(t, "not right", l, line, "bad")
		}
	}
}

func TestEachWordSpelledOut(t *testing.T) {
	l := holdLines(t, "ahead", live(wantNew(pair(t)...)),
		"full > 0 0", "out 0 > nothing", "out 1 > nothing", "out 2 > nothing", "clock 0 0 > nothing", "picture > no", "mark 0 1 > nomark", "mark 0 2 > none", "begin 2 > none", "back 0 0 > ok", "back 0 1 > none",
		"step 1 0 > wait", "step 1 1 > wait", "step 1 2 > none", "step 2 0 > none",
		"step 0 0 > ok", "step 0 7 > ok", "full > 2 0", "clock 0 0 > 1 0", "clock 0 1 > 2 0", "clock 0 2 > nothing", "clock 1 0 > nothing",
		"step 1 0 > ok", "step 1 0 > ok", "step 1 0 > wait", "clock 1 0 > 2 1", "clock 1 1 > 2 2", "full > 2 2",
		"step 0 0 > ok", "step 0 0 > ok", "step 0 0 > ok", "step 0 0 > ok", "step 0 0 > ok", "step 0 0 > ok", "out 0 > 5", "clock 0 7 > 8 2", "clock 0 5 > 6 0", "step 0 0 > ok", "step 0 0 > over", "full > 9 2", "picture > no")
	// What was printed is gone with the send of what was printed.
	back := holdLines(t, "back", l, "back 1 1 > ok", "full > 6 1", "out 0 > nothing", "step 1 0 > ok", "step 0 0 > ok", "step 0 0 > ok", "out 0 > 5")
	holdLines(t, "and further", back, "back 0 1 > ok", "full > 1 0", "back 0 2 > none", "back 1 0 > ok", "back 0 0 > ok", "full > 0 0")
	on := holdLines(t, "on", l, "begin 0 > ok", "begin 0 > on", "begin 1 > on", "begin 2 > none", "back 0 0 > on", "picture > no", "mark 1 0 > nomark", "mark 0 0 > ok", "mark 0 1 > nomark", "step 1 0 > ok", "mark 0 1 > nomark", "full > 9 3", "back 1 0 > on")
	on = holdLines(t, "to its end", on, "step 1 0 > ok", "step 1 0 > over", "picture > no")
	if !slices.Equal(on.Shot.Cut, []int{9, -1}) {
		t.Errorf("%+v", on)
	}
}

// eachCode has a line for each word of each code, told of a live of which it is so.
func eachCode(t *testing.T) map[string][]impl.Live {
	on := func(s impl.Sys, p int) impl.Live {
		l := live(s)
		if code := begins(&l, p); code != 0 {
			t.Fatalf("begin is %d", code)
		}
		return l
	}
	met := on(wantNew(program(t, "take 0 any", "end"), program(t, "end")), 1)
	few := on(filled(t, 2, 1, 0, 11, 0), 0)
	full := butLive(few, func(l *impl.Live) { l.S.Ways[3] = slices.Repeat([]impl.Item{{Mark: true}}, 12) })
	return map[string][]impl.Live{
		"step 0 0 > ok":     {live(underWay(t)), live(crowd(t)), on(crowd(t), 0), few},
		"step 1 0 > ok":     {live(flow(t, 2, 0, 1, 3, 1)), on(flow(t, 2, 0, 1, 3, 1), 1), few},
		"step 9 0 > none":   {live(underWay(t)), on(underWay(t), 1), live(crowd(t))},
		"step 2 9 > none":   {live(crowd(t)), on(crowd(t), 3)},
		"step 2 3 > wait":   {live(crowd(t)), on(crowd(t), 1)},
		"step 0 5 > full":   {live(sends(t, 12, 0)), on(sends(t, 11, 0), 0), live(filled(t, 2, 0, 1, 12, 0))},
		"step 1 0 > full":   {live(worn(t, 2, 1, 200, "set 0 1")), on(worn(t, 2, 1, 200, "take 0 0"), 0)},
		"step 0 1 > mark":   {met},
		"step 1 1 > over":   {live(crowd(t)), on(crowd(t), 2), on(crowd(t), 1)},
		"begin 0 > ok":      {live(underWay(t)), live(wantNew(pair(t)...)), live(sends(t, 11, 0)), live(filled(t, 2, 1, 0, 12, 0))},
		"begin 3 > ok":      {live(crowd(t))},
		"begin 4 > none":    {live(crowd(t)), on(crowd(t), 0), live(sends(t, 12, 0))},
		"begin 1 > on":      {on(underWay(t), 0), on(underWay(t), 1), on(crowd(t), 3), on(filled(t, 2, 1, 0, 12, 0), 0)},
		"begin 0 > full":    {live(sends(t, 12, 0)), live(filled(t, 2, 0, 1, 12, 0))},
		"mark 1 0 > ok":     {met},
		"mark 1 1 > ok":     {met},
		"mark 0 1 > ok":     {few},
		"mark 2 0 > none":   {met, live(underWay(t)), few},
		"mark 0 2 > none":   {met, live(underWay(t)), few},
		"mark 0 1 > nomark": {met, live(underWay(t)), on(underWay(t), 1), on(underWay(t), 0)},
		"mark 0 1 > full":   {full},
		"back 0 0 > ok":     {live(underWay(t)), live(talk(t)), live(crowd(t)), live(flow(t, 2, 0, 1, 30, 20))},
		"back 1 1 > ok":     {live(underWay(t)), live(talk(t)), live(crowd(t))},
		"back 4 0 > none":   {live(underWay(t)), live(crowd(t)), live(flow(t, 3, 0, 1, 30, 20))},
		"back 0 500 > none": {live(underWay(t)), live(crowd(t)), live(flow(t, 3, 0, 1, 30, 20))},
		"back 1 0 > full":   {live(flow(t, 2, 0, 1, 30, 20)), live(flow(t, 3, 0, 1, 13, 2))},
		"back 1 0 > on":     {on(flow(t, 2, 0, 1, 30, 20), 1), on(underWay(t), 0), met, few, full},
	}
}

func TestEachCodeAsItsWord(t *testing.T) {
	for line, lives := range eachCode(t) {
		for _, l := range lives {
			behind := holdLines(t, "as its word", l, line)
			// Back may be done though nothing is gone with it.
			if turned := !sameLive(behind, l); turned != strings.HasSuffix(line, " > ok") && !strings.HasPrefix(line, "back") {
				t.Errorf("%s: %+v", line, behind)
			}
		}
	}
}

// While a picture is taken nothing is taken back, whatever the numbers are, and also when all of it is done.
func TestBackWhileAPictureIsTaken(t *testing.T) {
	seen := [4]int{}
	for _, l := range someLives(t) {
		n := len(l.S.Progs)
		seen[stage(l)]++
		for p := range n + 2 {
			for _, k := range []int{0, 1, 3, 200, 999999} {
				line := fmt.Sprintf("back %d %d", p, k)
				if l.Shot.On {
					holdLine(t, "on", l, line, "on")
					continue
				}
				then, code := impl.Back(l.S, p, k)
				behind := holdLine(t, "not on", l, line, codeWord("back", code))
				if !sameLive(behind, impl.ShotNew(then)) {
					t.Fatalf("%s is %+v, not of %+v", line, behind, then)
				}
			}
		}
	}
	if slices.Min(seen[:]) < 4 {
		t.Error("few:", seen)
	}
}

// Behind `back` the picture is a new one, that can be begun.
func TestThePictureBehindBack(t *testing.T) {
	for n := 1; n <= 4; n++ {
		l := live(stairs(t, n))
		for p := range n {
			for k := range len(l.S.Hist[p]) + 1 {
				behind := holdLine(t, "back", l, fmt.Sprintf("back %d %d", p, k), "ok")
				if behind.Shot.On || !slices.Equal(behind.Shot.Cut, many(n, -1)) || slices.Contains(behind.Shot.Open, true) || len(behind.Shot.Open) != n*n || len(behind.Shot.Kept) != n*n {
					t.Fatalf("%+v", behind.Shot)
				}
				on := holdLines(t, "begun", behind, fmt.Sprintf("begin %d > ok", p), "back 0 0 > on")
				if on.Shot.Cut[p] != len(on.S.Hist[p]) {
					t.Fatalf("%+v", on.Shot)
				}
			}
		}
	}
}

func TestOutAtTheDesk(t *testing.T) {
	printed := wantNew(program(t, "set 0 -1000000000", "print 0", "print 1", "set 1 1000000000", "print 1", "set 2 -7", "print 2", "print 3", "end"), program(t, "end"))
	l := holdLines(t, "ahead", live(printed), "out 0 > nothing", "out 1 > nothing", "out 2 > nothing", "out 999999 > nothing", "step 0 0 > ok", "out 0 > nothing")
	holdLines(t, "one by one", l, "step 0 0 > ok", "out 0 > -1000000000", "step 0 0 > ok", "out 0 > -1000000000 0", "step 0 0 > ok", "out 0 > -1000000000 0", "step 0 0 > ok", "out 0 > -1000000000 0 1000000000",
		"step 0 0 > ok", "step 0 0 > ok", "out 0 > -1000000000 0 1000000000 -7", "step 0 0 > ok", "out 0 > -1000000000 0 1000000000 -7 0", "out 1 > nothing", "step 0 0 > ok", "out 0 > -1000000000 0 1000000000 -7 0")
	// As many as can be printed.
	s := wantNew(program(t, "print 0", "jump 0"))
	for range 119 {
		play(&s, 0, 0)
	}
	want := strings.TrimSuffix(strings.Repeat("0 ", 60), " ")
	holdLines(t, "many", live(s), "out 0 > "+want, "step 0 0 > ok", "out 0 > "+want, "step 0 0 > ok", "step 0 0 > over", "out 0 > "+want)
}

func TestClockAndFullAtTheDesk(t *testing.T) {
	systems := []impl.Sys{wantNew(pair(t)...), underWay(t), talk(t), stairs(t, 4), stairs(t, 1), toOneself(t, 2, 1), ring(4, 30, 2), flow(t, 3, 2, 0, 30, 18)}
	told, nothing := 0, 0
	for _, s := range systems {
		l := live(s)
		tell := tellingOf(s)
		for p := range len(s.Progs) + 2 {
			most := 0
			if p < len(s.Hist) {
				most = len(s.Hist[p])
			}
			for _, i := range []int{0, 1, most / 2, most - 2, most - 1, most, most + 1, 199, 999999} {
				if i < 0 {
					continue
				}
				want := spaced(tell.clock(one{p, i}))
				if (want == "nothing") != (i >= most) {
					t.Fatalf("told once more the clock of %d of %d is %s", i, p, want)
				}
				holdLine(t, "clock", l, fmt.Sprintf("clock %d %d", p, i), want)
				if i < most {
					told++
				} else {
					nothing++
				}
			}
		}
		holdLine(t, "full", l, "full", spaced(counts(s)))
	}
	if told < 50 || nothing < 50 {
		t.Error("few:", told, nothing)
	}
}

func TestPictureAtTheDesk(t *testing.T) {
	progs := [][]impl.Ins{program(t, "set 0 7", "send 1 0", "send 1 0", "print 0", "end"), program(t, "take 0 any", "take 1 any", "end")}
	l := holdLines(t, "ahead", live(played(t, progs, 0, 0, 0)), "picture > no", "begin 1 > ok", "picture > no", "mark 1 1 > ok", "picture > no", "step 0 0 > ok", "picture > no", "mark 1 0 > ok", "picture > no", "mark 0 0 > ok", "picture > no")
	l = holdLines(t, "the last way", l, "mark 0 1 > nomark", "step 1 0 > ok", "mark 0 1 > nomark", "step 1 1 > wait", "step 1 0 > ok", "picture > no", "mark 0 1 > ok", "picture > yes", "step 0 0 > ok", "picture > yes", "begin 0 > on", "back 0 0 > on", "picture > yes", "full > 5 2")
	if !sameLists(l.Shot.Kept, [][]int{nil, {7, 7}, nil, nil}) {
		t.Errorf("%+v", l.Shot)
	}
	holdLine(t, "something else was kept", butLive(l, func(l *impl.Live) { l.Shot.Kept[1] = []int{7} }), "picture", "no")
	// A picture that is done, of which there is no system.
	_, full := pour(t, 12)
	holdLine(t, "as much as there can be", full, "picture", "yes")
	_, full = pour(t, 13)
	holdLine(t, "too much", full, "picture", "no")
}

// Each line with one byte more, one less or another is told by its form.
func TestLinesOfTheDeskOneByteOff(t *testing.T) {
	l := live(talk(t))
	on := live(talk(t))
	begins(&on, 2)
	hold := func(line string) {
		_, said := wantLine(l, line)
		holdLine(t, "one byte off", l, line, said)
	}
	for _, line := range []string{"step 0 1", "begin 2", "mark 10 0", "back 1 2", "out 0", "clock 12 3", "full", "picture", ";"} {
		for i := 0; i <= len(line); i++ {
			for b := range 256 {
				hold(line[:i] + string([]byte{byte(b)}) + line[i:])
				if i < len(line) && b%3 == 0 {
					hold(line[:i] + string([]byte{byte(b)}) + line[i+1:])
				}
			}
			hold(line[:i])
			hold(line[i:])
			_, said := wantLine(on, line[:i])
			holdLine(t, "one byte off, on", on, line[:i], said)
		}
	}
}

// someLineOf is a line by chance, which often does something.
func someLineOf(r *rand.Rand, l impl.Live) string {
	n := len(l.S.Progs)
	switch r.Intn(12) {
	case 0:
		return deskLines()[r.Intn(len(deskLines()))]
	case 1:
		if line := oddLines()[r.Intn(len(oddLines()))]; len(line) < 60 {
			return line
		}
	case 2:
		return []string{"", ";", "; x", "full", "picture", fmt.Sprint("out ", r.Intn(n+1))}[r.Intn(6)]
	case 3:
		p := r.Intn(n)
		return fmt.Sprintf("clock %d %d", p, r.Intn(len(l.S.Hist[p])+2))
	case 4:
		p := r.Intn(n)
		return fmt.Sprintf("back %d %d", p, len(l.S.Hist[p])-min(r.Intn(4), len(l.S.Hist[p])))
	case 5:
		if r.Intn(3) == 0 {
			return fmt.Sprintf("begin %d", r.Intn(n))
		}
	}
	if r.Intn(4) == 0 {
		return fmt.Sprintf("mark %d %d", r.Intn(n), r.Intn(n))
	}
	return fmt.Sprintf("step %d %d", r.Intn(n), r.Intn(n))
}

func TestLinesByChance(t *testing.T) {
	r := rand.New(rand.NewSource(112))
	seen := map[string]int{}
	for range 150 {
		l := live(noMarks(someSys(r, r.Intn(40))))
		if r.Intn(3) == 0 {
			l = milled(r, r.Intn(4)+1, r.Intn(60), 0)
		}
		for range 60 {
			line := someLineOf(r, l)
			want, said := wantLine(l, line)
			l = holdLine(t, "by chance", l, line, said)
			if !sameLive(l, want) {
				t.Fatalf("%q: %+v", line, l)
			}
			word, _, _ := strings.Cut(line, " ")
			seen[word+" "+said]++
		}
	}
	for _, x := range []string{"step ok", "step none", "step wait", "step full", "step over", "step mark", "begin ok", "begin on", "mark ok", "mark none", "mark nomark", "back ok", "back none", "back on", "out nothing", "clock nothing", "picture no", "picture yes", " ", "; "} {
		if seen[x] < 3 {
			t.Error("few:", x, seen[x])
		}
	}
}

// What asks turns nothing, and neither does what tells no ok.
func TestWhatAsksTurnsNothing(t *testing.T) {
	r := rand.New(rand.NewSource(113))
	turned, stayed := 0, 0
	for k := range 120 {
		l := milled(r, r.Intn(4)+1, r.Intn(50), r.Intn(60))
		if k%2 == 0 {
			l = live(someChat(r, r.Intn(60)))
		}
		for range 40 {
			line := someLineOf(r, l)
			after, said := impl.Line(l, line)
			word, _, _ := strings.Cut(line, " ")
			asks := slices.Contains([]string{"out", "clock", "full", "picture", "", ";"}, word)
			if (asks || said != "ok") && !sameLive(after, l) || asks && said == "ok" {
				t.Fatalf("%q of %+v tells %q, and %+v", line, l, said, after)
			}
			if sameLive(after, l) {
				stayed++
			} else {
				turned++
			}
			l = after
		}
	}
	if turned < 1000 || stayed < 1000 {
		t.Error("few:", turned, stayed)
	}
}

func TestSessionsSpelledOut(t *testing.T) {
	lines := "step 0 0\nstep 0 0\nfull\n\n; a word aside\nstep 1 0\nstep 1 0\nclock 1 1\nback 0 1\nfull\nfly\nbegin 0\nback 0 0\nmark 0 0\npicture\nmark 0 1\nmark 1 0\nmark 1 1\npicture"
	want := "ok\nok\n2 0\nok\nok\n2 2\nok\n1 0\nwhat\nok\non\nok\nno\nok\nok\nok\nyes\n"
	for _, given := range []string{lines, lines + "\n"} {
		if said := holdSession(t, "spelled out", pairText, given, 19); said != want {
			t.Errorf("%q", said)
		}
	}
	if said := holdSession(t, "without a byte 10 at the end of the text", strings.TrimSuffix(pairText, "\n"), lines, 19); said != want {
		t.Errorf("%q", said)
	}
}

func TestSessionsThatTellNothing(t *testing.T) {
	for lines, n := range map[string]int{"": 0, "\n": 1, "\n\n": 2, ";": 1, ";\n": 1, "; x\n\n;full\n": 3, "\n;": 2, ";\n\n": 2, strings.Repeat("\n", 120): 120, strings.Repeat(";\n", 119) + ";": 120} {
		if said := holdSession(t, "nothing", pairText, lines, n); said != "" {
			t.Errorf("%q tells %q", lines, said)
		}
	}
}

func TestSessionsWithABlankLineAtTheEnd(t *testing.T) {
	for lines, n := range map[string]int{"full": 1, "full\n": 1, "full\n\n": 2, "full\n\n\n": 3, "\nfull": 2, "full\nfull": 2, "full\nfull\n": 2, "full\n\nfull": 3, "full\n;": 2} {
		said := holdSession(t, "at the end", pairText, lines, n)
		if said != strings.Repeat("0 0\n", strings.Count(lines, "full")) {
			t.Errorf("%q tells %q", lines, said)
		}
	}
}

func TestSessionsLinesMetAndPassed(t *testing.T) {
	for n := 115; n <= 125; n++ {
		want := n
		if n > 120 {
			want = -2
		}
		for _, line := range []string{"full", "", ";", "step 0 0", "fly", "begin 0"} {
			lines := strings.Repeat(line+"\n", n)
			holdSession(t, "lines", pairText, lines, want)
			if line != "" {
				holdSession(t, "lines", pairText, strings.TrimSuffix(lines, "\n"), want)
			}
		}
		holdSession(t, "with an empty one at the end", pairText, strings.Repeat("full\n", n-1)+"\n", want)
	}
	holdSession(t, "many", pairText, strings.Repeat("\n", 12000), -2)
}

func TestSessionsTextsMetAndPassed(t *testing.T) {
	for n := 11990; n <= 12010; n++ {
		want := 2
		if n > 12000 {
			want = -1
		}
		for _, begin := range []string{"full\n;", "full\n", "full\nout 0"} {
			holdSession(t, "bytes", pairText, begin+strings.Repeat("x", n-len(begin)), want)
			holdSession(t, "bytes, with a byte 10 at the end", pairText, begin+strings.Repeat("x", n-len(begin)-1)+"\n", want)
		}
		// The bytes are counted, and not the characters.
		holdSession(t, "characters", pairText, "full\n;"+strings.Repeat("\u20ac", (n-6)/3)+strings.Repeat("x", (n-6)%3), want)
	}
	holdSession(t, "very many", pairText, ";"+strings.Repeat("x", 3000000), -1)
}

// Of lines with too many bytes and too many lines the bytes are told, and so it is where there is no Load.
func TestSessionsWhichReasonComesFirst(t *testing.T) {
	few, many, long, both := "full\n", strings.Repeat("full\n", 121), ";"+strings.Repeat("x", 12000), strings.Repeat(";"+strings.Repeat("x", 98)+"\n", 121)
	if len(both) <= 12000 || len(many) > 12000 {
		t.Fatal(len(both), len(many))
	}
	for lines, n := range map[string]int{few: 1, many: -2, long: -1, both: -1, strings.Repeat("\n", 12001): -1, strings.Repeat("\n", 12000): -2, strings.Repeat("\n", 121): -2} {
		holdSession(t, "there is a Load", pairText, lines, n)
		for _, text := range []string{"", "x", "fly\n", "--", "end\n\n", "send 1 0", pairText + "--\n", strings.Repeat("end\n", 3000), strings.Repeat("x", 12001), strings.Repeat("end\n--\n", 5), "jump 1"} {
			holdSession(t, "there is no Load", text, lines, -1)
		}
	}
	holdSession(t, "neither", "", "", -1)
}

// A session tells what Line tells, line by line, from ShotNew of Load on.
func TestASessionIsItsLines(t *testing.T) {
	r := rand.New(rand.NewSource(114))
	told, ok, yes := 0, 0, 0
	for k := range 200 {
		n := r.Intn(4) + 1
		progs := [][]impl.Ins{}
		for range n {
			progs = append(progs, someTalk(r, n))
		}
		if k%3 == 0 {
			progs = mill(n).Progs
		}
		text := textOf(progs)
		s, how := impl.Load(text)
		if how != 0 {
			t.Fatalf("no Load: %q", text)
		}
		l, lines, want := impl.ShotNew(s), []string{}, ""
		for range r.Intn(121) {
			line, said := someLineOf(r, l), ""
			if strings.Contains(line, "\n") {
				continue
			}
			l, said = impl.Line(l, line)
			lines = append(lines, line)
			if said != "" {
				want += said + "\n"
			}
		}
		all := strings.Join(lines, "\n")
		if len(lines) > 0 {
			all += "\n"
		}
		if got := holdSession(t, "by chance", text, all, len(lines)); got != want {
			t.Fatalf("Session(%q, %q) tells %q, not %q", text, all, got, want)
		}
		told, ok, yes = told+strings.Count(want, "\n"), ok+strings.Count(want, "ok\n"), yes+strings.Count(want, "yes\n")
	}
	if told < 5000 || ok < 1000 || yes < 5 {
		t.Error("few:", told, ok, yes)
	}
}

// A session that is parted goes on with what is behind its first lines.
func TestASessionToItsLastLine(t *testing.T) {
	lines := []string{}
	for range 60 {
		lines = append(lines, "step 0 0", "step 1 0")
	}
	said := holdSession(t, "to its end", pairText, strings.Join(lines, "\n"), 120)
	for k := range len(lines) {
		if part := holdSession(t, "a beginning", pairText, strings.Join(lines[:k], "\n"), k); !strings.HasPrefix(said, part) {
			t.Fatalf("%q does not begin with %q", said, part)
		}
	}
}

func TestLinesWriteIntoNothingAndShareNothing(t *testing.T) {
	r := rand.New(rand.NewSource(115))
	lives := []impl.Live{{}, live(filled(t, 2, 0, 1, 12, 0)), live(crowd(t)), live(flow(t, 2, 0, 1, 20, 10))}
	for _, l := range someLives(t) {
		if len(l.S.Progs) < 3 || r.Intn(5) == 0 {
			lives = append(lives, l)
		}
	}
	for range 20 {
		l := handMade(r)
		lives = append(lives, cloneLive(l))
		someLiveTurn(r, &l)
		lives = append(lives, cloneLive(l))
	}
	lines := append(deskLines(), "", "; x", "fly", "step 0", "back 0 1", "mark 0 9", "back 9 0")
	seen := map[string]int{}
	for _, from := range lives {
		for _, given := range []func(impl.Live) (impl.Live, func() bool){roomyLive, closeLive} {
			l, same := given(from)
			for _, line := range lines {
				want, told := wantLine(from, line)
				want = cloneLive(want)
				got, said := impl.Line(l, line)
				again, _ := impl.Line(l, line)
				if said != told || !sameLive(got, want) || !same() {
					t.Fatalf("Line(%+v, %q) is %+v, %q, or wrote into it", from, line, got, said)
				}
				holdLiveApart(t, got)
				if !same() || !sameLive(again, want) {
					t.Fatalf("what comes of Line(%+v, %q) is shared", from, line)
				}
				seen[said]++
			}
		}
	}
	for _, said := range []string{"ok", "none", "wait", "mark", "over", "on", "nomark", "full", "bad", "what", "", "nothing", "no", "yes"} {
		if seen[said] < 2 {
			t.Error("few:", said, seen[said])
		}
	}
}

// One list in several places of the argument comes out as several.
func TestLinesTellApartWhatIsOne(t *testing.T) {
	for n := 1; n <= 4; n++ {
		one := append(make([]int, 0, 9), 3)
		l := live(stairs(t, n))
		l.Shot.On, l.Shot.Cut = true, make([]int, n)
		l.Shot.Kept = slices.Repeat([][]int{one}, n*n)
		l.S.Ways = slices.Repeat([][]impl.Item{append(make([]impl.Item, 0, 9), impl.Item{Mark: true})}, n*n)
		kept := cloneLive(l)
		for _, line := range append(deskLines(), "", "fly") {
			want, said := wantLine(kept, line)
			got, told := impl.Line(l, line)
			if told != said || !sameLive(got, want) {
				t.Fatalf("%q is %+v, %q", line, got, told)
			}
			holdLiveApart(t, got)
			if !sameLive(l, kept) || !slices.Equal(one[:9], []int{3, 0, 0, 0, 0, 0, 0, 0, 0}) {
				t.Fatalf("%q wrote into it: %+v", line, l)
			}
		}
	}
}

// Two systems of one text share nothing, and neither do the lists of one: what a program was read into is not the room of the next.
func TestLoadsShareNothing(t *testing.T) {
	texts := []string{"end", pairText, textOf(slices.Repeat([][]impl.Ins{ends(30, 0)}, 4)), textOf([][]impl.Ins{ends(20, 3), ends(2, 1), ends(1, 0), ends(30, 29)}), textOf([][]impl.Ins{ends(1, 0), ends(2, 0), ends(3, 0), ends(4, 0)})}
	for _, text := range texts {
		want, _ := wantLoad(text)
		first, _ := impl.Load(text)
		again, _ := impl.Load(text)
		holdApart(t, first)
		if !sameSys(again, want) {
			t.Errorf("Load(%q) is shared: %+v", text, again)
		}
		holdLoad(t, "once more", text, 0)
	}
}

// Many at once tell the same, and no call remembers another.
func TestManyDesksAtOnce(t *testing.T) {
	lines := "step 0 0\nstep 0 0\nstep 1 0\nfull\nbegin 0\nmark 0 1\nfly\nclock 0 1\nback 0 0\nout 0"
	want, _ := wantSession(pairText, lines)
	lives := someLives(t)[:12]
	var joined sync.WaitGroup
	wrong := make([]string, 16)
	for k := range wrong {
		joined.Add(1)
		go func() {
			defer joined.Done()
			for i := range 12 {
				if said, n := impl.Session(pairText, lines); said != want || n != 10 {
					wrong[k] = fmt.Sprint(said, n)
				}
				if _, how := impl.Load("end\nfly"); how != 2 {
					wrong[k] = fmt.Sprint("Load is ", how)
				}
				l := lives[(i+k)%len(lives)]
				for _, line := range append(deskLines(), "fly") {
					want, told := wantLine(l, line)
					if got, said := impl.Line(l, line); said != told || !sameLive(got, want) {
						wrong[k] = fmt.Sprintf("Line(%+v, %q) is %+v, %q", l, line, got, said)
					}
				}
			}
		}()
	}
	joined.Wait()
	for _, what := range wrong {
		if what != "" {
			t.Error(what)
		}
	}
}
