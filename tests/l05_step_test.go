package tests

import (
	"math"
	"math/rand"
	"slices"
	"strconv"
	"strings"
	"testing"

	"loop.example/g00196/impl"
)

func TestConstantsOfSteps(t *testing.T) {
	got := []int{impl.RsDone, impl.RsBad, impl.RsNone, impl.RsWait, impl.RsFull, impl.RsMark, impl.RsOver}
	if want := []int{0, 1, 2, 3, 4, 5, 6}; !slices.Equal(got, want) {
		t.Error(got)
	}
}

// wantCode is the code of Step of a right system, told once more: one reason behind the other, as the chapter names them.
func wantCode(s impl.Sys, p, peer int) int {
	n := len(s.Progs)
	if p < 0 || p >= n {
		return 2
	}
	if s.States[p].Code != 0 {
		return 6
	}
	x := s.Progs[p][s.States[p].At]
	if len(s.Hist[p]) == 200 || x.Op == 6 && len(s.Ways[n*p+x.N]) == 12 {
		return 4
	}
	if x.Op != 7 {
		return 0
	}
	if x.N != 9 {
		peer = x.N
	}
	if peer < 0 || peer >= n {
		return 2
	}
	way := s.Ways[n*peer+p]
	if len(way) == 0 {
		return 3
	}
	if way[0].Mark {
		return 5
	}
	return 0
}

// wantStep is Step, told once more; play does what can come.
func wantStep(s impl.Sys, p, peer int) (impl.Sys, int) {
	if !wantSysOk(s) {
		return impl.Sys{}, 1
	}
	s = cloneSys(s)
	code := wantCode(s, p, peer)
	if code == 0 {
		play(&s, p, peer)
	}
	return s, code
}

// wantReady is Ready, told once more.
func wantReady(s impl.Sys, p int) []int {
	ready := []int{}
	if !wantSysOk(s) || p < 0 || p >= len(s.Progs) {
		return ready
	}
	x := s.Progs[p][s.States[p].At]
	for peer := range s.Progs {
		if wantCode(s, p, peer) == 0 && (peer == 0 || x.Op == 7 && x.N == 9) {
			ready = append(ready, peer)
		}
	}
	return ready
}

// holdStep holds Step, Ready and Halted of s against what is told once more, and Step against the code that is said; it answers what is behind the step.
func holdStep(t *testing.T, what string, s impl.Sys, p, peer, code int) impl.Sys {
	t.Helper()
	want, told := wantStep(s, p, peer)
	if told != code {
		t.Fatalf("%s: told once more it is %d, not %d, of %d and %d in %+v", what, told, code, p, peer, s)
	}
	got, how := impl.Step(s, p, peer)
	if how != code || !sameSys(got, want) {
		t.Errorf("%s: Step(%+v, %d, %d) is %+v, %d, not %+v, %d", what, s, p, peer, got, how, want, code)
	}
	switch code {
	case impl.RsBad:
		if !isZeroSys(got) {
			t.Errorf("%s: it is bad, and %+v", what, got)
		}
	case impl.RsDone:
		holdOneMore(t, what, s, got, p)
	default:
		if !sameSys(got, s) {
			t.Errorf("%s: code %d, and it is not as it was: %+v", what, code, got)
		}
	}
	holdReady(t, what, s, p)
	return got
}

// holdReady holds Ready of p, and Halted.
func holdReady(t *testing.T, what string, s impl.Sys, p int) {
	t.Helper()
	if got, want := impl.Ready(s, p), wantReady(s, p); !slices.Equal(got, want) {
		t.Errorf("%s: Ready(%+v, %d) is %v, not %v", what, s, p, got, want)
	}
	halted := wantSysOk(s)
	for q := range s.Progs {
		halted = halted && len(wantReady(s, q)) == 0
	}
	if got := impl.Halted(s); got != halted {
		t.Errorf("%s: Halted(%+v) is %v", what, s, got)
	}
}

// holdOneMore holds that after is before with one event more of p, and nothing else: what it sent or took moved on one way, and all is right.
func holdOneMore(t *testing.T, what string, before, after impl.Sys, p int) {
	t.Helper()
	n := len(before.Progs)
	if !impl.SysOk(after) || !wantSysOk(after) {
		t.Fatalf("%s: it is not right behind the step: %+v", what, after)
	}
	had := len(before.Hist[p])
	if len(after.Hist[p]) != had+1 || !slices.Equal(after.Hist[p][:had], before.Hist[p]) || !sameLists(after.Progs, before.Progs) {
		t.Fatalf("%s: not one event more: %+v", what, after)
	}
	e := after.Hist[p][had]
	moved := -1
	switch e.Kind {
	case impl.EvSend:
		moved = n*p + e.Peer
		if !slices.Equal(after.Ways[moved], append(slices.Clone(before.Ways[moved]), impl.Item{V: e.V})) {
			t.Errorf("%s: not put behind its way: %+v", what, after.Ways[moved])
		}
	case impl.EvTake:
		moved = n*e.Peer + p
		if before.Ways[moved][0] != (impl.Item{V: e.V}) || !slices.Equal(after.Ways[moved], before.Ways[moved][1:]) {
			t.Errorf("%s: not taken from the front of its way: %+v", what, after.Ways[moved])
		}
	}
	for i := range before.Ways {
		if i != moved && !slices.Equal(after.Ways[i], before.Ways[i]) {
			t.Errorf("%s: way %d changed: %+v", what, i, after.Ways[i])
		}
	}
	for q := range n {
		if q != p && (!slices.Equal(after.Hist[q], before.Hist[q]) || !sameState(after.States[q], before.States[q])) {
			t.Errorf("%s: process %d changed: %+v", what, q, after)
		}
	}
	if told, ok := impl.Do(before.Progs[p], before.States[p], e); !ok || !sameState(told, after.States[p]) {
		t.Errorf("%s: the state is %+v, not %+v", what, after.States[p], told)
	}
}

// wrongSystems are not SysOk, each for another reason.
func wrongSystems(t *testing.T) []impl.Sys {
	s := underWay(t)
	circle := wantNew(program(t, "take 0 0", "send 0 0", "end"))
	circle.Hist[0] = []impl.Event{{Kind: impl.EvTake, V: 4}, {Kind: impl.EvSend, V: 4}}
	circle.States[0] = fromTo(2, 4, 0, 0, 0)
	return []impl.Sys{
		{}, wantNew(), wantNew(slices.Repeat([][]impl.Ins{program(t, "end")}, 5)...), wantNew(nil), wantNew(program(t, "send 1 0", "end")),
		wantNew(badPrograms()[:4]...), {Progs: s.Progs}, {States: s.States, Ways: s.Ways, Hist: s.Hist}, sends(t, 13, 0), sends(t, 0, 13), circle,
		but(s, func(s *impl.Sys) { s.Ways = s.Ways[:3] }),
		but(s, func(s *impl.Sys) { s.Ways = append(s.Ways, nil) }),
		but(s, func(s *impl.Sys) { s.Hist = s.Hist[:1] }),
		but(s, func(s *impl.Sys) { s.Hist = append(s.Hist, nil) }),
		but(s, func(s *impl.Sys) { s.States = s.States[:1] }),
		but(s, func(s *impl.Sys) { s.States[1].At = math.MaxInt }),
		but(s, func(s *impl.Sys) { s.States[0].Regs = nil }),
		but(s, func(s *impl.Sys) { s.States[1].Code = impl.StEnd }),
		but(s, func(s *impl.Sys) { s.Hist[0] = nil }),
		but(s, func(s *impl.Sys) { s.Hist[1][0].Peer = -1 }),
		but(s, func(s *impl.Sys) { s.Ways[1] = nil }),
		but(s, func(s *impl.Sys) { s.Ways[1][0].V++ }),
		but(s, func(s *impl.Sys) { s.Ways[0] = []impl.Item{{Mark: true, V: 1}} }),
		but(wantNew(program(t, "jump 0")), func(s *impl.Sys) { s.Hist[0] = slices.Repeat([]impl.Event{local()}, 201) }),
	}
}

func TestNoStepOfWhatIsNotRight(t *testing.T) {
	for i, s := range wrongSystems(t) {
		if wantSysOk(s) {
			t.Fatal("it is right:", i)
		}
		// Whom it asks for, and whether there is one, makes no difference.
		for _, p := range append(wild(), -2, 6, 7) {
			for _, peer := range wild() {
				got, how := impl.Step(s, p, peer)
				if how != impl.RsBad || !isZeroSys(got) {
					t.Fatalf("Step(%+v, %d, %d) is %+v, %d", s, p, peer, got, how)
				}
			}
			if got := impl.Ready(s, p); len(got) != 0 {
				t.Errorf("Ready(%+v, %d) is %v", s, p, got)
			}
		}
		if impl.Halted(s) {
			t.Errorf("Halted(%+v)", s)
		}
	}
}

func TestProcessesThatThereAreNot(t *testing.T) {
	for n := 1; n <= 4; n++ {
		for _, lines := range [][]string{{"set 0 1", "end"}, {"take 0 any", "end"}, {"take 0 0", "end"}, {"send 0 0", "end"}, {"print 0", "end"}} {
			s := wantNew(slices.Repeat([][]impl.Ins{program(t, lines...)}, n)...)
			for _, p := range append(wild(), -n, -2, n-1, n, n+1, 6, 7) {
				if p >= 0 && p < n {
					continue
				}
				for _, peer := range wild() {
					holdStep(t, "no process", s, p, peer, impl.RsNone)
				}
				if got := impl.Ready(s, p); len(got) != 0 {
					t.Errorf("Ready of %d of %d is %v", p, n, got)
				}
			}
		}
	}
}

func TestLocalStepsAndPrints(t *testing.T) {
	for n := 1; n <= 4; n++ {
		progs := slices.Repeat([][]impl.Ins{program(t, "set 1 5", "mul 1 1 1", "print 1", "zero 0 5", "end", "less 2 0 1", "jump 7", "end")}, n)
		for p := range n {
			s := wantNew(progs...)
			// With whom makes no difference to what takes nothing.
			for i, peer := range []int{0, -1, impl.Any, math.MinInt, math.MaxInt, n, 3} {
				if got := impl.Ready(s, p); !slices.Equal(got, []int{0}) {
					t.Errorf("Ready at %d is %v", i, got)
				}
				s = holdStep(t, "alone", s, p, peer, impl.RsDone)
			}
			want := impl.State{At: 7, Regs: []int{0, 25, 1, 0}, Out: []int{25}, Code: impl.StEnd}
			if !sameState(s.States[p], want) || s.Hist[p][2] != (impl.Event{Kind: impl.EvPrint, V: 25}) || len(s.Hist[p]) != 7 {
				t.Errorf("%+v", s)
			}
			holdStep(t, "at its end", s, p, 0, impl.RsOver)
		}
	}
}

func TestNoStepOfWhatDoesNotRun(t *testing.T) {
	endings := [][]string{
		{"end"}, {"zero 0 1", "end"}, // It ended.
		{"set 0 5"}, {"send P 0"}, {"print 0"}, {"send P 0", "take 1 P"}, {"send P 0", "take 1 any"}, // There is no place behind the last.
		{"set 0 40000", "mul 0 0 0", "end"}, // The number is too great.
	}
	for _, lines := range endings {
		for n := 1; n <= 4; n++ {
			for p := range n {
				progs := slices.Repeat([][]impl.Ins{program(t, "jump 0")}, n)
				progs[p] = nil
				for _, line := range lines {
					progs[p] = append(progs[p], program(t, strings.ReplaceAll(line, "P", strconv.Itoa(p)))...)
				}
				s := wantNew(progs...)
				for s.States[p].Code == impl.StRun {
					s = holdStep(t, "on its way there", s, p, p, impl.RsDone)
				}
				for _, peer := range wild() {
					holdStep(t, "it does not run", s, p, peer, impl.RsOver)
				}
				if got := impl.Ready(s, p); len(got) != 0 {
					t.Errorf("Ready is %v", got)
				}
				for q := range n {
					if q != p {
						holdStep(t, "the others run", s, q, 0, impl.RsDone)
					}
				}
				if impl.Halted(s) != (n == 1) {
					t.Errorf("Halted of %d is %v", n, n != 1)
				}
			}
		}
	}
}

func TestAPrintTooManyIsAStep(t *testing.T) {
	s := wantNew(program(t, "print 0", "jump 0"))
	for range 120 {
		play(&s, 0, 0)
	}
	if len(s.States[0].Out) != 60 {
		t.Fatal(len(s.States[0].Out))
	}
	s = holdStep(t, "a print too many", s, 0, 0, impl.RsDone)
	if s.States[0].Code != impl.StFault || len(s.States[0].Out) != 60 || len(s.Hist[0]) != 121 {
		t.Errorf("%+v", s)
	}
	holdStep(t, "behind it", s, 0, 0, impl.RsOver)
}

// worn is a system of n processes of which p had so many events, at least 4, and is about to do a line; all others do nothing.
func worn(t *testing.T, n, p, events int, line string) impl.Sys {
	t.Helper()
	progs := slices.Repeat([][]impl.Ins{program(t, "end")}, n)
	// The circle takes three events each time it is gone round; what is missing stands behind it.
	list := program(t, "set 1 1", "set 0 0", "sub 0 0 1", "zero 0 5", "jump 2")
	list[1].N = (events - 1) / 3
	list = append(list, slices.Repeat(program(t, "set 3 0"), (events-1)%3)...)
	at := len(list)
	progs[p] = append(list, program(t, line, "end")...)
	s := wantNew(progs...)
	for range events {
		play(&s, p, 0)
	}
	if s.States[p].At != at || len(s.Hist[p]) != events {
		t.Fatalf("it has not come to its line: %+v", s)
	}
	return s
}

// withSent puts numbers and marks on the way from a to p by a program that only sends: a number for each V from 0 on, a mark for each that is less.
func withSent(s impl.Sys, a, p int, items ...int) impl.Sys {
	s = cloneSys(s)
	n := len(s.Progs)
	s.Progs[a] = nil
	for _, v := range items {
		if v < 0 {
			s.Ways[n*a+p] = append(s.Ways[n*a+p], impl.Item{Mark: true})
			continue
		}
		s.Progs[a] = append(s.Progs[a], impl.Ins{Op: impl.OpSet, N: v}, impl.Ins{Op: impl.OpSend, N: p})
		s.Hist[a] = append(s.Hist[a], local(), impl.Event{Kind: impl.EvSend, Peer: p, V: v})
		s.Ways[n*a+p] = append(s.Ways[n*a+p], impl.Item{V: v})
		s.States[a].Regs[0] = v
	}
	s.States[a].At = len(s.Progs[a])
	s.Progs[a] = append(s.Progs[a], impl.Ins{Op: impl.OpEnd})
	return s
}

func TestEventsOfAStepMetAndPassed(t *testing.T) {
	for _, line := range []string{"set 2 7", "add 2 1 1", "print 1", "send 1 1", "send 0 1", "take 2 0", "take 2 any", "jump 0", "zero 3 0", "end"} {
		for events, code := range map[int]int{100: impl.RsDone, 198: impl.RsDone, 199: impl.RsDone, 200: impl.RsFull} {
			s := withSent(worn(t, 2, 1, events, line), 0, 1, 6, 7)
			behind := holdStep(t, line, s, 1, 0, code)
			want := []int{0}
			if code == impl.RsFull {
				want = nil
			}
			if got := impl.Ready(s, 1); !slices.Equal(got, want) {
				t.Errorf("Ready of %s behind %d is %v", line, events, got)
			}
			if events == 199 && line != "end" {
				holdStep(t, "and one more", behind, 1, 0, impl.RsFull)
			}
			// The other had few.
			holdStep(t, "the other", s, 0, 1, impl.RsDone)
		}
	}
}

// filled is a system of n processes in which a is about to send 8 to b, with so many numbers on the way there, and marks among them.
func filled(t *testing.T, n, a, b, numbers, marks int) impl.Sys {
	progs := slices.Repeat([][]impl.Ins{program(t, "end")}, n)
	progs[a] = []impl.Ins{{Op: impl.OpSet, R: 0, N: 8}, {Op: impl.OpSend, N: b}, {Op: impl.OpJump, N: 0}}
	s := wantNew(progs...)
	for range 3*numbers + 1 {
		if !play(&s, a, 0) {
			t.Fatal("it can't come to that")
		}
	}
	way := &s.Ways[n*a+b]
	for i := range marks {
		*way = slices.Insert(*way, (5*i)%(len(*way)+1), impl.Item{Mark: true})
	}
	return s
}

func TestSendsOnWaysMetAndPassed(t *testing.T) {
	for n := 1; n <= 4; n++ {
		for a := range n {
			for b := range n {
				for numbers := range 13 {
					for marks := range 13 - numbers {
						s := filled(t, n, a, b, numbers, marks)
						code := impl.RsDone
						if numbers+marks == 12 {
							code = impl.RsFull
						}
						behind := holdStep(t, "a send", s, a, a, code)
						way := impl.WayOf(behind, a, b)
						if code == impl.RsDone && (len(way) != numbers+marks+1 || way[numbers+marks] != (impl.Item{V: 8})) || code == impl.RsFull && len(way) != 12 {
							t.Errorf("%d to %d of %d: %+v", a, b, n, way)
						}
					}
				}
			}
		}
	}
}

func TestOnlyTheWayOfTheSendIsAsked(t *testing.T) {
	// All other ways are full of marks; the one that is sent on has room for one.
	for n := 1; n <= 4; n++ {
		for a := range n {
			for b := range n {
				s := filled(t, n, a, b, 5, 6)
				for i := range s.Ways {
					if i != n*a+b {
						s.Ways[i] = slices.Repeat([]impl.Item{{Mark: true}}, 12)
					}
				}
				behind := holdStep(t, "room here alone", s, a, b, impl.RsDone)
				behind = holdStep(t, "it jumps", behind, a, b, impl.RsDone)
				behind = holdStep(t, "it sets", behind, a, b, impl.RsDone)
				holdStep(t, "no room any more", behind, a, b, impl.RsFull)
			}
		}
	}
}

func TestTakesFromAFullWay(t *testing.T) {
	s := wantNew(program(t, "send 0 0", "jump 0"), program(t, "end"))
	s = withSent(s, 1, 0, 1, 2, 3, 4, 5, 6, 7, -1, -1, -1, -1, -1)
	for _, line := range []string{"take 2 1", "take 2 any"} {
		full := but(s, func(s *impl.Sys) { s.Progs[0][0] = program(t, line)[0] })
		behind := holdStep(t, line, full, 0, 1, impl.RsDone)
		if way := impl.WayOf(behind, 1, 0); len(way) != 11 || way[0].V != 2 || behind.States[0].Regs[2] != 1 {
			t.Errorf("%s: %+v", line, behind)
		}
	}
}

func TestTakesFromOneProcess(t *testing.T) {
	for n := 1; n <= 4; n++ {
		for p := range n {
			for from := range n {
				if from == p {
					continue
				}
				progs := slices.Repeat([][]impl.Ins{program(t, "end")}, n)
				progs[p] = []impl.Ins{{Op: impl.OpTake, R: 3, N: from}, {Op: impl.OpJump, N: 0}}
				s := wantNew(progs...)
				// The peer that is handed in makes no difference, though there be none such.
				for _, peer := range append(wild(), n, n-1, p, from) {
					holdStep(t, "nothing", s, p, peer, impl.RsWait)
					holdStep(t, "a mark", withSent(s, from, p, -1), p, peer, impl.RsMark)
					holdStep(t, "a mark, and a number", withSent(s, from, p, -1, 6), p, peer, impl.RsMark)
					holdStep(t, "two marks, and a number", withSent(s, from, p, -1, -1, 6), p, peer, impl.RsMark)
					one := holdStep(t, "a number", withSent(s, from, p, 6), p, peer, impl.RsDone)
					if one.Hist[p][0] != (impl.Event{Kind: impl.EvTake, Peer: from, V: 6}) || one.States[p].Regs[3] != 6 || len(impl.WayOf(one, from, p)) != 0 {
						t.Errorf("%+v", one)
					}
					two := holdStep(t, "a number, and a mark", withSent(s, from, p, 6, -1, 7), p, peer, impl.RsDone)
					if !slices.Equal(impl.WayOf(two, from, p), []impl.Item{{Mark: true}, {V: 7}}) {
						t.Errorf("%+v", two)
					}
					two = holdStep(t, "it jumps", two, p, peer, impl.RsDone)
					holdStep(t, "the mark comes first now", two, p, peer, impl.RsMark)
				}
				if got := impl.Ready(withSent(s, from, p, 6), p); !slices.Equal(got, []int{0}) {
					t.Errorf("Ready of a take from %d is %v", from, got)
				}
				if len(impl.Ready(s, p)) != 0 || len(impl.Ready(withSent(s, from, p, -1, 6), p)) != 0 {
					t.Error("Ready of a take that waits")
				}
			}
		}
	}
}

func TestATakeLooksAtNoOtherWay(t *testing.T) {
	// 1 takes from 2, and all have sent it something but 2; and 2 has sent all others something.
	progs := [][]impl.Ins{
		program(t, "send 1 0", "end"), program(t, "send 1 0", "take 0 2", "end"),
		program(t, "send 0 0", "send 2 0", "send 3 0", "send 1 0", "end"), program(t, "send 1 0", "end"),
	}
	s := played(t, progs, 0, 1, 2, 2, 2, 3)
	for _, peer := range wild() {
		holdStep(t, "not from 2", s, 1, peer, impl.RsWait)
	}
	behind := holdStep(t, "now it sends", s, 2, 0, impl.RsDone)
	for _, peer := range wild() {
		got := holdStep(t, "from 2", behind, 1, peer, impl.RsDone)
		if e := got.Hist[1][1]; e != (impl.Event{Kind: impl.EvTake, Peer: 2}) {
			t.Errorf("%+v", e)
		}
	}
}

// fromAny is process p of n at a take from Any: of each other one's way there is nothing, a number (6 and who it is) or a mark first, digit by digit of choice.
func fromAny(t *testing.T, n, p, choice int) (impl.Sys, []int) {
	progs := slices.Repeat([][]impl.Ins{program(t, "end")}, n)
	progs[p] = program(t, "take 2 any", "end")
	s := wantNew(progs...)
	codes := []int{}
	for from := range n {
		if from == p {
			codes = append(codes, impl.RsWait)
			continue
		}
		items := [][]int{{}, {60 + from}, {-1, 60 + from}, {60 + from, -1, 7}}[choice%4]
		codes = append(codes, []int{impl.RsWait, impl.RsDone, impl.RsMark, impl.RsDone}[choice%4])
		s = withSent(s, from, p, items...)
		choice /= 4
	}
	return s, codes
}

func TestTakesFromAny(t *testing.T) {
	most := 0
	for n := 1; n <= 4; n++ {
		for p := range n {
			for choice := range 1 << (2 * (n - 1)) {
				s, codes := fromAny(t, n, p, choice)
				ready := []int{}
				for peer, code := range codes {
					got := holdStep(t, "from any", s, p, peer, code)
					if code != impl.RsDone {
						continue
					}
					ready = append(ready, peer)
					if got.Hist[p][0] != (impl.Event{Kind: impl.EvTake, Peer: peer, V: 60 + peer}) || got.States[p].Regs[2] != 60+peer {
						t.Errorf("%+v", got)
					}
				}
				most = max(most, len(ready))
				if got := impl.Ready(s, p); !slices.Equal(got, ready) {
					t.Errorf("Ready is %v, not %v", got, ready)
				}
				for _, peer := range []int{math.MinInt, -n - 1, -n, -1, n, n + 1, 5, 8, impl.Any, 10, math.MaxInt} {
					holdStep(t, "no such peer", s, p, peer, impl.RsNone)
				}
			}
		}
	}
	if most != 3 {
		t.Error("few were ready:", most)
	}
}

func TestSentToAndTakenFromOneself(t *testing.T) {
	for n := 1; n <= 4; n++ {
		for p := range n {
			for _, from := range []int{p, impl.Any} {
				progs := slices.Repeat([][]impl.Ins{program(t, "end")}, n)
				progs[p] = []impl.Ins{{Op: impl.OpSet, N: 5}, {Op: impl.OpSend, N: p}, {Op: impl.OpTake, R: 1, N: from}, {Op: impl.OpTake, R: 2, N: from}, {Op: impl.OpEnd}}
				s := wantNew(progs...)
				s = holdStep(t, "set", s, p, p, impl.RsDone)
				s = holdStep(t, "send to oneself", s, p, p, impl.RsDone)
				if !slices.Equal(impl.WayOf(s, p, p), []impl.Item{{V: 5}}) {
					t.Errorf("%+v", s)
				}
				want := []int{0}
				if from == impl.Any {
					want = []int{p}
				}
				if got := impl.Ready(s, p); !slices.Equal(got, want) {
					t.Errorf("Ready is %v", got)
				}
				marked := but(s, func(s *impl.Sys) { s.Ways[n*p+p] = []impl.Item{{Mark: true}, {V: 5}} })
				holdStep(t, "a mark of one's own", marked, p, p, impl.RsMark)
				s = holdStep(t, "take from oneself", s, p, p, impl.RsDone)
				if s.States[p].Regs[1] != 5 || s.Hist[p][2] != (impl.Event{Kind: impl.EvTake, Peer: p, V: 5}) || len(impl.WayOf(s, p, p)) != 0 {
					t.Errorf("%+v", s)
				}
				holdStep(t, "nothing more from oneself", s, p, p, impl.RsWait)
			}
		}
	}
	// As many as may be, and not one more.
	holdStep(t, "twelve to oneself", sends(t, 12, 0), 0, 0, impl.RsFull)
	holdStep(t, "eleven to oneself", sends(t, 11, 0), 0, 0, impl.RsDone)
	holdStep(t, "eleven and a mark to oneself", sends(t, 11, 1), 0, 0, impl.RsFull)
}

func TestSendsAndTakesAtTheLastPlace(t *testing.T) {
	// The event is done though no place comes behind it.
	s := wantNew(program(t, "send 1 0"), program(t, "take 1 any"))
	s = holdStep(t, "a send", s, 0, 0, impl.RsDone)
	if s.States[0].Code != impl.StFault || len(impl.WayOf(s, 0, 1)) != 1 {
		t.Errorf("%+v", s)
	}
	s = holdStep(t, "a take", s, 1, 0, impl.RsDone)
	if s.States[1].Code != impl.StFault || len(impl.WayOf(s, 0, 1)) != 0 || !impl.Halted(s) {
		t.Errorf("%+v", s)
	}
}

// TestWhichCodeComesFirst has systems of which more than one code could be told.
func TestWhichCodeComesFirst(t *testing.T) {
	bad := but(underWay(t), func(s *impl.Sys) { s.States[0].At++ })
	holdStep(t, "bad, and no process", bad, 2, 0, impl.RsBad)
	holdStep(t, "bad, and no peer", bad, 1, 7, impl.RsBad)

	waits := wantNew(program(t, "take 0 any", "end"), program(t, "take 0 1", "end"))
	holdStep(t, "no process, and no peer", waits, 2, 7, impl.RsNone)
	holdStep(t, "no process, and nothing comes", waits, -1, 0, impl.RsNone)
	holdStep(t, "no peer, though another would be", withSent(waits, 1, 0, 5), 0, 2, impl.RsNone)
	holdStep(t, "no peer, though a mark is first everywhere", but(waits, func(s *impl.Sys) {
		for i := range s.Ways {
			s.Ways[i] = []impl.Item{{Mark: true}}
		}
	}), 0, -1, impl.RsNone)
	holdStep(t, "a mark alone is not nothing", withSent(waits, 1, 0, -1), 0, 1, impl.RsMark)

	// Ended with its last event, and no more could come.
	ended := worn(t, 2, 1, 199, "end")
	ended = holdStep(t, "the end as the last event", ended, 1, 0, impl.RsDone)
	if len(ended.Hist[1]) != 200 || ended.States[1].Code != impl.StEnd {
		t.Fatalf("%+v", ended)
	}
	holdStep(t, "over, and full of events", ended, 1, 0, impl.RsOver)

	// Gone wrong at a send that filled its way, and at a take behind which nothing is on the way.
	last := wantNew(append(slices.Repeat(program(t, "send 0 0"), 12), program(t, "send 1 0")...), program(t, "take 0 any"))
	for range 13 {
		last = holdStep(t, "a send", last, 0, 0, impl.RsDone)
	}
	last.Ways[1] = append(last.Ways[1], slices.Repeat([]impl.Item{{Mark: true}}, 11)...)
	holdStep(t, "over, and the way is full", last, 0, 0, impl.RsOver)
	last = holdStep(t, "a take", last, 1, 0, impl.RsDone)
	for _, peer := range wild() {
		holdStep(t, "over, and a mark, or nothing, or no peer", last, 1, peer, impl.RsOver)
	}

	// Full of events at a take for which there is no peer, nothing, or a mark; and at a send on a full way.
	for _, line := range []string{"take 2 any", "take 2 0"} {
		full := worn(t, 2, 1, 200, line)
		for _, peer := range wild() {
			holdStep(t, "full, and nothing, or no peer", full, 1, peer, impl.RsFull)
			holdStep(t, "full, and a mark, or no peer", withSent(full, 0, 1, -1, 5), 1, peer, impl.RsFull)
			holdStep(t, "full, and a number, or no peer", withSent(full, 0, 1, 5), 1, peer, impl.RsFull)
		}
		if len(impl.Ready(full, 1)) != 0 || len(impl.Ready(withSent(full, 0, 1, 5), 1)) != 0 {
			t.Error("Ready of who is full")
		}
	}
	full := but(worn(t, 2, 1, 200, "send 1 0"), func(s *impl.Sys) { s.Ways[3] = slices.Repeat([]impl.Item{{Mark: true}}, 12) })
	holdStep(t, "full, and the way too", full, 1, 0, impl.RsFull)
	holdStep(t, "over, and no such peer", ended, 1, impl.Any, impl.RsOver)
}

func TestHaltedSystems(t *testing.T) {
	stuck := map[string][]string{"end": {"end"}, "a take": {"take 0 any", "end"}, "a take from 0": {"take 0 0", "end"}}
	for n := 1; n <= 4; n++ {
		for what, lines := range stuck {
			progs := slices.Repeat([][]impl.Ins{program(t, lines...)}, n)
			s := wantNew(progs...)
			for p := range n {
				if what == "end" {
					s = holdStep(t, "to its end", s, p, 0, impl.RsDone)
				}
			}
			if !impl.Halted(s) {
				t.Errorf("%d of %s are not halted", n, what)
			}
			// One of them alone can go on: with a step of its own, or because something came.
			for p := range n {
				one := but(s, func(s *impl.Sys) {
					s.Progs[p], s.Hist[p], s.States[p] = program(t, "jump 0"), nil, fromTo(0, 0, 0, 0, 0)
				})
				if impl.Halted(one) || !impl.SysOk(one) {
					t.Errorf("%d of %s but %d", n, what, p)
				}
				holdReady(t, what, one, p)
			}
		}
	}
	holdReady(t, "under way", underWay(t), 0)
	if impl.Halted(underWay(t)) {
		t.Error("under way")
	}
}

func TestHaltedByEachReason(t *testing.T) {
	mark := []impl.Item{{Mark: true}}
	// The first is over, the second is full of events, the third waits for the second, the fourth has a mark first.
	s := worn(t, 4, 1, 200, "jump 0")
	s.Progs[0] = program(t, "end")
	s.Progs[2], s.Progs[3] = program(t, "take 0 1", "end"), program(t, "take 0 any", "end")
	s.Hist[0], s.States[0].Code = []impl.Event{local()}, impl.StEnd
	s.Ways[3], s.Ways[7] = mark, mark
	if !impl.SysOk(s) || !impl.Halted(s) {
		t.Errorf("%+v", s)
	}
	for p := range 4 {
		holdStep(t, "halted", s, p, 0, []int{impl.RsOver, impl.RsFull, impl.RsWait, impl.RsMark}[p])
	}
	// A take behind the mark, of the last process alone.
	s = withSent(but(s, func(s *impl.Sys) { s.Ways[3] = nil; s.Hist[0] = nil; s.States[0].Code = impl.StRun }), 0, 3, 5)
	s = holdStep(t, "it ends", s, 0, 0, impl.RsDone)
	if impl.Halted(s) || !slices.Equal(impl.Ready(s, 3), []int{0}) {
		t.Errorf("%+v", s)
	}
	s = holdStep(t, "it takes", s, 3, 0, impl.RsDone)
	s = holdStep(t, "it ends", s, 3, 0, impl.RsDone)
	if !impl.Halted(s) {
		t.Errorf("%+v", s)
	}
	// A full way holds who would send on it, and nobody else.
	if !impl.Halted(sends(t, 12, 0)) || impl.Halted(sends(t, 11, 0)) || !impl.Halted(sends(t, 6, 6)) || impl.Halted(sends(t, 6, 5)) {
		t.Error("full ways")
	}
}

func TestARunByStepsToItsEnd(t *testing.T) {
	s := wantNew(pair(t)...)
	steps := 0
	for !impl.Halted(s) {
		for p := range s.Progs {
			if ready := impl.Ready(s, p); len(ready) > 0 {
				s = holdStep(t, "to its end", s, p, ready[0], impl.RsDone)
				steps++
			}
		}
	}
	if steps != 13 || !slices.Equal(s.States[0].Out, []int{5}) || s.States[0].Code != impl.StEnd || s.States[1].Code != impl.StEnd || !slices.Equal(impl.Numbers(impl.WayOf(s, 0, 1)), []int{7}) {
		t.Errorf("%d: %+v", steps, s)
	}
}

func TestStepsOfSystemsByChance(t *testing.T) {
	r := rand.New(rand.NewSource(15))
	codes := [7]int{}
	halted := 0
	for range 4000 {
		s := someSys(r, r.Intn(120))
		if r.Intn(6) == 0 {
			someTurn(r, &s)
		}
		n := len(s.Progs)
		for range 4 {
			p, peer := r.Intn(n), r.Intn(n)
			if r.Intn(10) == 0 {
				p = wild()[r.Intn(len(wild()))]
			}
			if r.Intn(6) == 0 {
				peer = wild()[r.Intn(len(wild()))]
			}
			_, code := wantStep(s, p, peer)
			codes[code]++
			behind := holdStep(t, "by chance", s, p, peer, code)
			if impl.Halted(s) {
				halted++
			}
			if code == impl.RsDone {
				s = behind
			}
		}
	}
	for code, count := range codes {
		if count < 30 || code == 0 && count < 3000 {
			t.Error("few:", codes)
		}
	}
	if halted < 50 {
		t.Error("few were halted:", halted)
	}
}

// Ready tells just the peers with which a step is done: no other number is one of a take from Any.
func TestReadyIsWhatSteps(t *testing.T) {
	r := rand.New(rand.NewSource(16))
	several := 0
	for range 2000 {
		s := someSys(r, r.Intn(80))
		for p := -1; p <= len(s.Progs); p++ {
			ready := impl.Ready(s, p)
			fromAll := p >= 0 && p < len(s.Progs) && s.Progs[p][s.States[p].At] == impl.Ins{Op: impl.OpTake, R: s.Progs[p][s.States[p].At].R, N: impl.Any}
			if !slices.IsSorted(ready) || len(slices.Compact(slices.Clone(ready))) != len(ready) {
				t.Fatalf("not ascending: %v", ready)
			}
			if len(ready) > 1 {
				several++
			}
			for _, peer := range wild() {
				_, code := impl.Step(s, p, peer)
				want := slices.Contains(ready, peer)
				if !fromAll {
					want = len(ready) > 0
				}
				if (code == impl.RsDone) != want || !fromAll && len(ready) > 0 && !slices.Equal(ready, []int{0}) {
					t.Fatalf("Ready(%+v, %d) is %v, and Step with %d is %d", s, p, ready, peer, code)
				}
			}
		}
	}
	if several < 15 {
		t.Error("few had several:", several)
	}
}

// oneArray lays all lists of a kind behind each other in one array: what is put behind one of them would fall into the next.
func oneArray[T any](lists [][]T) [][]T {
	all := slices.Concat(lists...)
	out, at := [][]T{}, 0
	for _, list := range lists {
		out = append(out, all[at:at+len(list)])
		at += len(list)
	}
	return out
}

func closeSys(s impl.Sys) impl.Sys {
	nums := [][]int{}
	for _, x := range s.States {
		nums = append(nums, x.Regs, x.Out)
	}
	nums = oneArray(nums)
	states := slices.Clone(s.States)
	for p := range states {
		states[p].Regs, states[p].Out = nums[2*p], nums[2*p+1]
	}
	return impl.Sys{Progs: oneArray(s.Progs), States: states, Ways: oneArray(s.Ways), Hist: oneArray(s.Hist)}
}

// layings hands s out with room behind each of its lists, and with its lists close behind each other; each with a function that tells whether all is as it was.
func layings(s impl.Sys) []func() (impl.Sys, func() bool) {
	return []func() (impl.Sys, func() bool){
		func() (impl.Sys, func() bool) { return roomySys(s) },
		func() (impl.Sys, func() bool) {
			given := closeSys(s)
			return given, func() bool { return sameSys(given, s) }
		},
	}
}

// holdApart writes into each list of s, and the room behind it, one behind the other: those that come later must be as they were.
func holdApart(t *testing.T, s impl.Sys) {
	t.Helper()
	want := cloneSys(s)
	rest := func(progs, regs, outs, ways, hist int) {
		t.Helper()
		same := sameLists(s.Progs[progs:], want.Progs[progs:]) && sameLists(s.Ways[ways:], want.Ways[ways:]) && sameLists(s.Hist[hist:], want.Hist[hist:])
		for p := range s.States {
			same = same && (p < regs || slices.Equal(s.States[p].Regs, want.States[p].Regs)) && (p < outs || slices.Equal(s.States[p].Out, want.States[p].Out))
		}
		if !same {
			t.Fatalf("two lists share: %+v", want)
		}
	}
	for p := range s.Progs {
		wipe(s.Progs[p:p+1], impl.Ins{Op: -9})
		rest(p+1, 0, 0, 0, 0)
	}
	// What is not right may have more of one thing than of another.
	progs, states, ways := len(s.Progs), len(s.States), len(s.Ways)
	for p := range s.States {
		overwrite(s.States[p].Regs)
		rest(progs, p+1, 0, 0, 0)
	}
	for p := range s.States {
		overwrite(s.States[p].Out)
		rest(progs, states, p+1, 0, 0)
	}
	for i := range s.Ways {
		wipe(s.Ways[i:i+1], impl.Item{V: -99})
		rest(progs, states, states, i+1, 0)
	}
	for p := range s.Hist {
		wipe(s.Hist[p:p+1], impl.Event{Kind: -99})
		rest(progs, states, states, ways, p+1)
	}
	wipe([][][]impl.Ins{s.Progs}, nil)
	wipe([][]impl.State{s.States}, impl.State{Code: -99})
	wipe([][][]impl.Item{s.Ways}, nil)
	wipe([][][]impl.Event{s.Hist}, nil)
}

// stepSystems has one of each code, and systems by chance, right and not.
func stepSystems(t *testing.T) []impl.Sys {
	waits := wantNew(program(t, "take 0 any", "end"), program(t, "take 0 0", "end"))
	list := append(wrongSystems(t), underWay(t), sends(t, 12, 0), sends(t, 11, 0), sends(t, 4, 3), waits, withSent(waits, 1, 0, 5, -1, 6), withSent(waits, 1, 0, -1, 5),
		worn(t, 2, 1, 199, "send 0 1"), worn(t, 2, 1, 200, "send 0 1"), wantNew(slices.Repeat([][]impl.Ins{ends(1, 0)}, 4)...))
	r := rand.New(rand.NewSource(17))
	for range 150 {
		s := someSys(r, r.Intn(100))
		list = append(list, cloneSys(s))
		someTurn(r, &s)
		list = append(list, s)
	}
	return list
}

func TestStepsWriteIntoNothingAndShareNothing(t *testing.T) {
	codes := [7]int{}
	for _, from := range stepSystems(t) {
		for _, given := range layings(from) {
			s, same := given()
			for p := -1; p <= min(len(s.Progs), 4); p++ {
				for peer := -1; peer <= min(len(s.Progs), 4); peer++ {
					want, told := wantStep(from, p, peer)
					got, code := impl.Step(s, p, peer)
					again, _ := impl.Step(s, p, peer)
					if code != told || !sameSys(got, want) || !same() {
						t.Fatalf("Step(%+v, %d, %d) is %+v, %d, or wrote into it", from, p, peer, got, code)
					}
					codes[code]++
					holdApart(t, got)
					if !same() || !sameSys(again, want) {
						t.Fatalf("what comes of Step(%+v, %d, %d) is shared", from, p, peer)
					}
				}
				ready := impl.Ready(s, p)
				overwrite(ready)
				if got := impl.Ready(s, p); !slices.Equal(got, wantReady(from, p)) || !same() {
					t.Fatalf("Ready(%+v, %d) is %v, or wrote into it", from, p, got)
				}
			}
			halted := impl.Halted(s)
			if impl.Halted(s) != halted || !same() {
				t.Fatalf("Halted(%+v) wrote into it", from)
			}
		}
	}
	if slices.Contains(codes[:], 0) {
		t.Error("not all codes came:", codes)
	}
}

// One list in several places of the argument comes out as several.
func TestStepsTellApartWhatIsOne(t *testing.T) {
	for n := 1; n <= 4; n++ {
		list := program(t, "send 0 0", "jump 0")
		regs, marks := make([]int, 4, 9), append(make([]impl.Item, 0, 9), impl.Item{Mark: true})
		events := make([]impl.Event, 0, 9)
		s := impl.Sys{Progs: slices.Repeat([][]impl.Ins{list}, n), States: slices.Repeat([]impl.State{{Regs: regs, Out: regs[:0]}}, n),
			Ways: slices.Repeat([][]impl.Item{marks}, n*n), Hist: slices.Repeat([][]impl.Event{events}, n)}
		for p := -1; p <= n; p++ {
			kept := cloneSys(s)
			code := impl.RsDone
			if p < 0 || p == n {
				code = impl.RsNone
			}
			got := holdStep(t, "one list", s, p, 0, code)
			holdApart(t, got)
			if !sameSys(s, kept) || marks[:2][1] != (impl.Item{}) || events[:1][0] != (impl.Event{}) || !slices.Equal(regs[:9], make([]int, 9)) {
				t.Fatalf("it was written into: %+v", s)
			}
		}
	}
}

// Two steps from one system do not meet.
func TestStepsFromOneSystemAreApart(t *testing.T) {
	s := wantNew(program(t, "set 0 5", "send 1 0", "end"), program(t, "take 0 any", "send 1 0", "take 1 any", "end"))
	first := holdStep(t, "it sets", s, 0, 0, impl.RsDone)
	second := holdStep(t, "it sends", first, 0, 0, impl.RsDone)
	left := holdStep(t, "on to its end", second, 0, 0, impl.RsDone)
	right := holdStep(t, "on to the take", second, 1, 0, impl.RsDone)
	want, _ := wantStep(second, 1, 0)
	holdApart(t, left)
	if !sameSys(right, want) || !sameSys(s, wantNew(s.Progs...)) || len(impl.WayOf(second, 0, 1)) != 1 || len(first.Hist[0]) != 1 {
		t.Errorf("%+v", right)
	}
}
