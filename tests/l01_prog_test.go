package tests

import (
	"math"
	"math/rand"
	"regexp"
	"slices"
	"strings"
	"testing"

	"loop.example/g00196/impl"
)

type lineCase struct {
	line string
	ins  impl.Ins
}

// rightLines has every op, and each edge of what it names.
func rightLines() []lineCase {
	return []lineCase{
		{"set 0 0", impl.Ins{Op: 1}},
		{"set 3 5", impl.Ins{Op: 1, R: 3, N: 5}},
		{"set 1 10", impl.Ins{Op: 1, R: 1, N: 10}},
		{"set 1 -1", impl.Ins{Op: 1, R: 1, N: -1}},
		{"set 2 9", impl.Ins{Op: 1, R: 2, N: 9}},
		{"set 2 1000000000", impl.Ins{Op: 1, R: 2, N: 1000000000}},
		{"set 2 -1000000000", impl.Ins{Op: 1, R: 2, N: -1000000000}},
		{"add 0 0 0", impl.Ins{Op: 2}},
		{"add 1 2 3", impl.Ins{Op: 2, R: 1, A: 2, B: 3}},
		{"sub 3 1 2", impl.Ins{Op: 3, R: 3, A: 1, B: 2}},
		{"mul 2 3 1", impl.Ins{Op: 4, R: 2, A: 3, B: 1}},
		{"less 0 1 3", impl.Ins{Op: 5, A: 1, B: 3}},
		{"send 0 0", impl.Ins{Op: 6}},
		{"send 3 1", impl.Ins{Op: 6, N: 3, A: 1}},
		{"send 1 3", impl.Ins{Op: 6, N: 1, A: 3}},
		{"take 0 0", impl.Ins{Op: 7}},
		{"take 1 3", impl.Ins{Op: 7, R: 1, N: 3}},
		{"take 3 1", impl.Ins{Op: 7, R: 3, N: 1}},
		{"take 0 any", impl.Ins{Op: 7, N: 9}},
		{"take 3 any", impl.Ins{Op: 7, R: 3, N: 9}},
		{"print 0", impl.Ins{Op: 8}},
		{"print 3", impl.Ins{Op: 8, A: 3}},
		{"jump 0", impl.Ins{Op: 9}},
		{"jump 9", impl.Ins{Op: 9, N: 9}},
		{"jump 29", impl.Ins{Op: 9, N: 29}},
		{"zero 0 0", impl.Ins{Op: 10}},
		{"zero 3 29", impl.Ins{Op: 10, A: 3, N: 29}},
		{"zero 1 10", impl.Ins{Op: 10, A: 1, N: 10}},
		{"end", impl.Ins{Op: 11}},
	}
}

// lineForm is the chapter's form of lines, told once more by other means.
var lineForm = regexp.MustCompile(`\A(?:set [0-3] (?:0|-?[1-9][0-9]{0,8}|-?1000000000)` +
	`|(?:add|sub|mul|less) [0-3] [0-3] [0-3]|send [0-3] [0-3]|take [0-3] (?:[0-3]|any)|print [0-3]` +
	`|jump (?:[0-9]|[12][0-9])|zero [0-3] (?:[0-9]|[12][0-9])|end)\z`)

// wild are numbers about each edge of the chapter, and the ends of int.
func wild() []int {
	return []int{math.MinInt, -impl.MaxNum - 1, -impl.MaxNum, -10, -1, 0, 1, 2, 3, 4, 5, 8, 9, 10, 11, 12, 28, 29, 30, 31,
		impl.MaxNum, impl.MaxNum + 1, math.MaxInt32 + 1, math.MaxUint32 + 1, math.MaxInt}
}

// wantOk is InsOk by rows of what each op names: a register, a number, a process, one of these or Any, a place.
func wantOk(x impl.Ins, places, procs int) bool {
	rows := map[int]string{impl.OpSet: "r00n", impl.OpAdd: "rrr0", impl.OpSub: "rrr0", impl.OpMul: "rrr0", impl.OpLess: "rrr0",
		impl.OpSend: "0r0p", impl.OpTake: "r00t", impl.OpPrint: "0r00", impl.OpJump: "000l", impl.OpZero: "0r0l", impl.OpEnd: "0000"}
	row, ok := rows[x.Op]
	if !ok || procs < 1 || procs > 4 {
		return false
	}
	for i, n := range []int{x.R, x.A, x.B, x.N} {
		right := false
		switch row[i] {
		case '0':
			right = n == 0
		case 'r':
			right = 0 <= n && n <= 3
		case 'n':
			right = -1000000000 <= n && n <= 1000000000
		case 'p':
			right = 0 <= n && n < procs
		case 't':
			right = 0 <= n && n < procs || n == 9
		case 'l':
			right = 0 <= n && n < places
		}
		if !right {
			return false
		}
	}
	return true
}

func TestConstants(t *testing.T) {
	got := []int{impl.MaxProcs, impl.MaxIns, impl.MaxNum, impl.Any, impl.OpSet, impl.OpAdd, impl.OpSub, impl.OpMul, impl.OpLess,
		impl.OpSend, impl.OpTake, impl.OpPrint, impl.OpJump, impl.OpZero, impl.OpEnd}
	if want := []int{4, 30, 1000000000, 9, 1, 2, 3, 4, 5, 6, 7, 8, 9, 10, 11}; !slices.Equal(got, want) {
		t.Error(got)
	}
}

func TestLinesAreWrittenAndReadAsTheyWere(t *testing.T) {
	for _, c := range rightLines() {
		if !lineForm.MatchString(c.line) {
			t.Errorf("the form has no %q", c.line)
		}
		if got := impl.InsText(c.ins); got != c.line {
			t.Errorf("InsText(%+v) is %q, not %q", c.ins, got, c.line)
		}
		if got, ok := impl.InsRead(c.line); !ok || got != c.ins {
			t.Errorf("InsRead(%q) is %+v, %v", c.line, got, ok)
		}
		if !impl.InsOk(c.ins, impl.MaxIns, impl.MaxProcs) {
			t.Errorf("not ok: %+v", c.ins)
		}
	}
}

// eachIns goes over all ops and a few beside them, with registers and numbers in and out of their ranges.
func eachIns(do func(x impl.Ins)) {
	ops := []int{math.MinInt, -1, 0, 1, 2, 3, 4, 5, 6, 7, 8, 9, 10, 11, 12, 13, 255, 256 + 11, math.MaxInt}
	regs := []int{math.MinInt, -1, 0, 1, 3, 4, 9, math.MaxInt}
	for _, op := range ops {
		for _, r := range regs {
			for _, a := range regs {
				for _, b := range regs {
					for _, n := range wild() {
						do(impl.Ins{Op: op, R: r, A: a, B: b, N: n})
					}
				}
			}
		}
	}
}

func TestPlacesAgainstTheRows(t *testing.T) {
	texts := map[string]impl.Ins{}
	eachIns(func(x impl.Ins) {
		for procs := -1; procs <= 6; procs++ {
			if got := impl.InsOk(x, 30, procs); got != wantOk(x, 30, procs) {
				t.Fatalf("InsOk(%+v, 30, %d) is %v", x, procs, got)
			}
		}
		text := impl.InsText(x)
		if (text != "") != wantOk(x, 30, 4) {
			t.Fatalf("InsText(%+v) is %q", x, text)
		}
		if text == "" {
			return
		}
		if other, there := texts[text]; there && other != x {
			t.Fatalf("%q is of %+v and of %+v", text, x, other)
		}
		texts[text] = x
		if got, ok := impl.InsRead(text); !ok || got != x || !lineForm.MatchString(text) {
			t.Fatalf("%+v is written %q and read %+v, %v", x, text, got, ok)
		}
	})
}

func TestCountsOfPlacesAndProcesses(t *testing.T) {
	list := []impl.Ins{}
	for _, n := range wild() {
		for op := 0; op <= 12; op++ {
			list = append(list, impl.Ins{Op: op, N: n})
		}
	}
	for _, x := range list {
		for _, places := range wild() {
			for _, procs := range wild() {
				if got := impl.InsOk(x, places, procs); got != wantOk(x, places, procs) {
					t.Fatalf("InsOk(%+v, %d, %d) is %v", x, places, procs, got)
				}
			}
		}
	}
}

func TestRegistersAreFour(t *testing.T) {
	named := map[int]string{impl.OpSet: "R", impl.OpAdd: "RAB", impl.OpSub: "RAB", impl.OpMul: "RAB", impl.OpLess: "RAB",
		impl.OpSend: "A", impl.OpTake: "R", impl.OpPrint: "A", impl.OpJump: "", impl.OpZero: "A", impl.OpEnd: ""}
	for op, names := range named {
		for _, n := range wild() {
			for name, x := range map[string]impl.Ins{"R": {Op: op, R: n}, "A": {Op: op, A: n}, "B": {Op: op, B: n}} {
				want := n == 0 || strings.Contains(names, name) && n > 0 && n < 4
				if impl.InsOk(x, 1, 1) != want || (impl.InsText(x) != "") != want {
					t.Errorf("%+v", x)
				}
			}
		}
	}
}

func TestProcessesMetAndPassed(t *testing.T) {
	for procs := 1; procs <= impl.MaxProcs; procs++ {
		for _, op := range []int{impl.OpSend, impl.OpTake} {
			if !impl.InsOk(impl.Ins{Op: op, N: procs - 1}, 1, procs) || impl.InsOk(impl.Ins{Op: op, N: procs}, 1, procs) || impl.InsOk(impl.Ins{Op: op, N: -1}, 1, procs) {
				t.Error(op, procs)
			}
		}
		if !impl.InsOk(impl.Ins{Op: impl.OpTake, N: impl.Any}, 1, procs) || impl.InsOk(impl.Ins{Op: impl.OpSend, N: impl.Any}, 1, procs) {
			t.Error("any", procs)
		}
	}
	for _, procs := range []int{math.MinInt, -1, 0, impl.MaxProcs + 1, math.MaxInt} {
		if impl.InsOk(impl.Ins{Op: impl.OpEnd}, 1, procs) || impl.ProgOk([]impl.Ins{{Op: impl.OpEnd}}, procs) {
			t.Error(procs)
		}
	}
}

func TestPlacesMetAndPassed(t *testing.T) {
	for _, op := range []int{impl.OpJump, impl.OpZero} {
		for _, places := range []int{1, 2, 29, 30} {
			if !impl.InsOk(impl.Ins{Op: op, N: places - 1}, places, 1) || impl.InsOk(impl.Ins{Op: op, N: places}, places, 1) || impl.InsOk(impl.Ins{Op: op, N: -1}, places, 1) {
				t.Error(op, places)
			}
		}
		for _, places := range []int{math.MinInt, -1, 0} {
			for _, n := range wild() {
				if impl.InsOk(impl.Ins{Op: op, N: n}, places, 1) {
					t.Error(op, n, places)
				}
			}
		}
		if impl.InsText(impl.Ins{Op: op, N: impl.MaxIns}) != "" {
			t.Error(op)
		}
	}
}

func TestNumbersMetAndPassed(t *testing.T) {
	for n, want := range map[int]bool{impl.MaxNum: true, impl.MaxNum + 1: false, -impl.MaxNum: true, -impl.MaxNum - 1: false, math.MaxInt: false, math.MinInt: false} {
		x := impl.Ins{Op: impl.OpSet, N: n}
		if impl.InsOk(x, 1, 1) != want || (impl.InsText(x) != "") != want {
			t.Error(n)
		}
	}
}

// ends is a program of so many places, whose last one jumps to the place told.
func ends(places, to int) []impl.Ins {
	list := make([]impl.Ins, places)
	for i := range list {
		list[i] = impl.Ins{Op: impl.OpEnd}
	}
	if places > 0 {
		list[places-1] = impl.Ins{Op: impl.OpJump, N: to}
	}
	return list
}

func TestProgramsMetAndPassed(t *testing.T) {
	if impl.ProgOk(nil, 1) || impl.ProgOk([]impl.Ins{}, 1) || impl.ProgOk(ends(31, 0), 1) || impl.ProgOk(ends(1000, 0), 1) {
		t.Error("no program is right")
	}
	for _, places := range []int{1, 2, 15, 29, 30} {
		if !impl.ProgOk(ends(places, 0), 1) || !impl.ProgOk(ends(places, places-1), 4) || impl.ProgOk(ends(places, places), 4) || impl.ProgOk(ends(places, -1), 4) {
			t.Error(places)
		}
		for bad := range places {
			list := ends(places, 0)
			list[bad] = impl.Ins{Op: impl.OpEnd, R: 1}
			if impl.ProgOk(list, 4) {
				t.Error(places, bad)
			}
		}
	}
}

// someProgram is a program that is often right, and now and then not.
func someProgram(r *rand.Rand) []impl.Ins {
	list := make([]impl.Ins, r.Intn(4)+1)
	lines := rightLines()
	for i := range list {
		list[i] = lines[r.Intn(len(lines))].ins
		if list[i].Op == impl.OpJump || list[i].Op == impl.OpZero {
			list[i].N = r.Intn(len(list) + 1)
		}
		if r.Intn(20) == 0 {
			list[i].B = r.Intn(6) - 1
		}
	}
	return list
}

func TestRightForSomeProcessesIsRightForMore(t *testing.T) {
	r := rand.New(rand.NewSource(1))
	right := 0
	for range 3000 {
		list := someProgram(r)
		for procs := -1; procs <= 6; procs++ {
			want := true
			for _, x := range list {
				want = want && wantOk(x, len(list), procs)
			}
			got := impl.ProgOk(list, procs)
			if got != want {
				t.Fatalf("ProgOk(%+v, %d) is %v", list, procs, got)
			}
			if got && procs < impl.MaxProcs && !impl.ProgOk(list, procs+1) {
				t.Fatalf("%+v is right for %d, not for more", list, procs)
			}
			if got {
				right++
			}
		}
	}
	if right < 1000 {
		t.Error("few were right:", right)
	}
}

func TestLinesThatAreNone(t *testing.T) {
	bad := []string{
		"", " ", "  ", "\n", "\x00", "--", ";", "0", "5", "-",
		"set", "set ", "set 0", "set 0 ", "set 0 5 ", " set 0 5", "set  0 5", "set 0  5", "set 0 5 6", "set 0 5\n", "set 0 5\r", "set 0 5\x00", "set\t0\t5", "set\u00a00 5",
		"set 00 5", "set 0 05", "set 0 00", "set 0 -0", "set 0 +5", "set 0 -05", "set 0 --5", "set 0 - 5", "set 0 5-", "set 0 -", "set 0 +", "set +0 5", "set -0 5", "set -1 5", "set 4 5", "set 10 5",
		"set 0 1000000001", "set 0 -1000000001", "set 0 9223372036854775807", "set 0 9223372036854775808", "set 0 -9223372036854775808", "set 0 -9223372036854775809",
		"set 0 18446744073709551616", "set 0 18446744073709551621", "set 0 4294967301", "set 18446744073709551616 5", "set 0 1e3", "set 0 0x5", "set 0 1_000", "set 0 5.0", "set 0 any", "set any 5", "set 0 ٣",
		"add 0 0", "add 0 0 0 0", "add 4 0 0", "add 0 4 0", "add 0 0 4", "add 0 0 -1", "sub 1 2", "mul 01 2 3", "less 1 2 03", "less 1 2 3 ",
		"send 0", "send 4 0", "send 0 4", "send any 0", "send 9 0", "send -1 0", "send 1 0 0",
		"take 0", "take 4 0", "take 0 4", "take 0 9", "take 0 8", "take any 0", "take 0 any ", "take 0 Any", "take 0 an", "take 0 anyone", "take 0 any 0", "take any", "take any any",
		"print", "print ", "print 4", "print 0 0", "print any", "print -1", "print 00",
		"jump", "jump 30", "jump -1", "jump 031", "jump 01", "jump 0 0", "jump any", "jump -0",
		"zero 0", "zero 4 0", "zero 0 30", "zero 0 -1", "zero 0 any", "zero 0 0 0", "zero 0 029",
		"end ", " end", "end 0", "end 1", "endend", "end\n", "end\nend", "en", "ends", "End", "END",
		"fly", "fly 1", "Set 0 5", "SET 0 5", "sets 0 5", "se 0 5", "set0 5", "set 05", "1 0 5", "add0 0 0", "any", "add 1 2 3\x00",
		strings.Repeat("set 0 5 ", 5000), "set 0 " + strings.Repeat("0", 100000), "set 0 " + strings.Repeat("9", 100000), strings.Repeat(" ", 100000),
	}
	for _, line := range bad {
		if x, ok := impl.InsRead(line); ok || x != (impl.Ins{}) {
			t.Errorf("InsRead(%.60q) is %+v, %v", line, x, ok)
		}
	}
}

// holdRead holds InsRead of a line against the form of lines, and against InsText.
func holdRead(t *testing.T, line string) bool {
	x, ok := impl.InsRead(line)
	if ok != lineForm.MatchString(line) {
		t.Fatalf("InsRead(%q) is %+v, %v", line, x, ok)
	}
	if ok && impl.InsText(x) != line {
		t.Fatalf("%q is read %+v, which is written %q", line, x, impl.InsText(x))
	}
	if !ok && x != (impl.Ins{}) {
		t.Fatalf("InsRead(%q) is false, and %+v", line, x)
	}
	return ok
}

func TestLinesOneByteOff(t *testing.T) {
	for _, c := range rightLines() {
		for i := 0; i <= len(c.line); i++ {
			for b := 0; b < 256; b++ {
				holdRead(t, c.line[:i]+string([]byte{byte(b)})+c.line[i:])
				if i < len(c.line) {
					holdRead(t, c.line[:i]+string([]byte{byte(b)})+c.line[i+1:])
				}
			}
			if i < len(c.line) {
				holdRead(t, c.line[:i]+c.line[i+1:])
			}
			holdRead(t, c.line[:i])
			holdRead(t, c.line[i:])
		}
	}
}

func TestLinesOfWordsByChance(t *testing.T) {
	r := rand.New(rand.NewSource(2))
	words := []string{"set", "add", "sub", "mul", "less", "send", "take", "print", "jump", "zero", "end", "any", "fly", "", "0", "1", "2", "3", "4", "9", "29", "30", "00", "03", "-0", "-1", "+1", "1000000000", "-1000000000", "1000000001", "-1000000001"}
	read := 0
	for range 300000 {
		line := words[r.Intn(11)]
		for range r.Intn(5) {
			line += " " + words[r.Intn(len(words))]
		}
		if holdRead(t, line) {
			read++
		}
	}
	if read < 1000 {
		t.Error("few were read:", read)
	}
}

func TestProgramsAreNotWrittenInto(t *testing.T) {
	for _, x := range []impl.Ins{{Op: impl.OpEnd}, {Op: 12, R: -7, A: math.MaxInt, B: 4, N: math.MinInt}, {Op: impl.OpJump, N: 2}} {
		whole := []impl.Ins{{Op: impl.OpSet, N: 3}, x, {Op: -1, R: -2, A: -3, B: -4, N: -5}}
		kept := slices.Clone(whole)
		for _, procs := range wild() {
			first := impl.ProgOk(whole[:2], procs)
			if impl.ProgOk(whole[:2], procs) != first || !slices.Equal(whole, kept) {
				t.Errorf("%+v, %d", whole, procs)
			}
		}
	}
}
