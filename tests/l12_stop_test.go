package tests

import (
	"math"
	"math/rand"
	"slices"
	"testing"

	"loop.example/g00196/impl"
)

func stopAt(p, v int) impl.Stop { return impl.Stop{P: p, Kind: impl.StopAt, V: v} }

func stopOut(p, v int) impl.Stop { return impl.Stop{P: p, Kind: impl.StopOut, V: v} }

func stopTake(p, v int) impl.Stop { return impl.Stop{P: p, Kind: impl.StopTake, V: v} }

// wantStopOk is StopOk, told once more.
func wantStopOk(s impl.Sys, x impl.Stop) bool {
	return x.Kind >= 1 && x.Kind <= 3 && x.P >= 0 && x.P < len(s.Progs) && wantSysOk(s)
}

// isSo tells what a stop asks for, of a process in a state behind events.
func isSo(state impl.State, events []impl.Event, x impl.Stop) bool {
	switch x.Kind {
	case 1:
		return state.At == x.V
	case 2:
		n := len(state.Out)
		return n > 0 && state.Out[n-1] == x.V
	}
	n := len(events)
	return n > 0 && events[n-1].Kind == 3 && events[n-1].V == x.V
}

// wantHolds is Holds, told once more.
func wantHolds(s impl.Sys, x impl.Stop) bool {
	return wantStopOk(s, x) && isSo(s.States[x.P], s.Hist[x.P], x)
}

// wantUntil is Until, told once more.
func wantUntil(s impl.Sys, list []impl.Pick, x impl.Stop) (impl.Sys, int) {
	if len(list) > 200 || !wantStopOk(s, x) {
		return impl.Sys{}, -1
	}
	s = cloneSys(s)
	for i, pick := range list {
		if wantCode(s, pick.P, pick.Peer) != 0 {
			continue
		}
		play(&s, pick.P, pick.Peer)
		if isSo(s.States[x.P], s.Hist[x.P], x) {
			return s, i + 1
		}
	}
	return s, len(list)
}

// wantLast is Last, told once more: from the first event on, while Last may go the other way.
func wantLast(s impl.Sys, x impl.Stop) int {
	last := -1
	if !wantStopOk(s, x) {
		return last
	}
	state, events := fromTo(0, 0, 0, 0, 0), s.Hist[x.P]
	for k := 0; ; k++ {
		if isSo(state, events[:k], x) {
			last = k
		}
		if k == len(events) {
			return last
		}
		state = wantDo(s.Progs[x.P], state, events[k])
	}
}

// holdStop holds StopOk, Holds and Last against what is told once more, and that the one hangs together with the others; it answers what Last is.
func holdStop(t *testing.T, what string, s impl.Sys, x impl.Stop) int {
	t.Helper()
	ok, holds, last := impl.StopOk(s, x), impl.Holds(s, x), impl.Last(s, x)
	if ok != wantStopOk(s, x) {
		t.Fatalf("%s: StopOk(%+v, %+v) is %v", what, s, x, ok)
	}
	if holds != wantHolds(s, x) {
		t.Fatalf("%s: Holds(%+v, %+v) is %v", what, s, x, holds)
	}
	if want := wantLast(s, x); last != want {
		t.Fatalf("%s: Last(%+v, %+v) is %d, not %d", what, s, x, last, want)
	}
	// Behind all events it is what it is now.
	if ok && holds != (last == len(s.Hist[x.P])) || !ok && (holds || last != -1) {
		t.Fatalf("%s: of %+v in %+v StopOk is %v, Holds %v, Last %d", what, x, s, ok, holds, last)
	}
	return last
}

// holdHolds holds that it is so, or not, as is said.
func holdHolds(t *testing.T, what string, s impl.Sys, x impl.Stop, want bool) {
	t.Helper()
	if !impl.StopOk(s, x) {
		t.Fatalf("%s: StopOk(%+v, %+v) is false", what, s, x)
	}
	if got := impl.Holds(s, x); got != want {
		t.Errorf("%s: Holds(%+v, %+v) is %v", what, s, x, got)
	}
	holdStop(t, what, s, x)
}

// holdLast holds Last to a number that is said.
func holdLast(t *testing.T, what string, s impl.Sys, x impl.Stop, want int) {
	t.Helper()
	if got := holdStop(t, what, s, x); got != want {
		t.Errorf("%s: Last(%+v, %+v) is %d, not %d", what, s, x, got, want)
	}
}

// holdUntil holds Until to the count that is said, against what is told once more, and against Run of as many; it answers the system then.
func holdUntil(t *testing.T, what string, s impl.Sys, list []impl.Pick, x impl.Stop, n int) impl.Sys {
	t.Helper()
	want, told := wantUntil(s, list, x)
	if told != n {
		t.Fatalf("%s: told once more Until(%+v, %v, %+v) is %d, not %d", what, s, list, x, told, n)
	}
	got, count := impl.Until(s, list, x)
	if count != n || !sameSys(got, want) {
		t.Fatalf("%s: Until(%+v, %v, %+v) is %+v, %d, not %+v, %d", what, s, list, x, got, count, want, n)
	}
	if n < 0 {
		if !isZeroSys(got) {
			t.Fatalf("%s: there is no count, and %+v", what, got)
		}
		return got
	}
	run, codes := impl.Run(s, list[:n])
	if len(codes) != n || !sameSys(got, run) || !impl.SysOk(got) {
		t.Fatalf("%s: Until(%+v, %v, %+v) is %+v, not Run of as many, %+v", what, s, list, x, got, run)
	}
	if n < len(list) && (!impl.Holds(got, x) || codes[n-1] != impl.RsDone) {
		t.Fatalf("%s: Until(%+v, %v, %+v) ends at %d where it is not so", what, s, list, x, n)
	}
	return got
}

// holdNoStop holds that of what is not StopOk nothing is told.
func holdNoStop(t *testing.T, what string, s impl.Sys, x impl.Stop) {
	t.Helper()
	if impl.StopOk(s, x) || impl.Holds(s, x) || impl.Last(s, x) != -1 {
		t.Fatalf("%s: of %+v in %+v StopOk is %v, Holds %v, Last %d", what, x, s, impl.StopOk(s, x), impl.Holds(s, x), impl.Last(s, x))
	}
	for _, list := range [][]impl.Pick{nil, each(0), each(7, 1, 0), each(many(200, 0)...), each(many(201, 0)...)} {
		if got, n := impl.Until(s, list, x); n != -1 || !isZeroSys(got) {
			t.Fatalf("%s: Until(%+v, %v, %+v) is %+v, %d", what, s, list, x, got, n)
		}
	}
}

// relay is one that sends 5 and prints what comes back, and one that sends on one more.
func relay(t *testing.T) [][]impl.Ins {
	return [][]impl.Ins{
		program(t, "set 0 5", "send 1 0", "take 1 1", "print 1", "end"),
		program(t, "set 1 1", "take 0 any", "add 0 0 1", "send 0 0", "end"),
	}
}

// relayed is relay so many steps on, of the ten that there are.
func relayed(t *testing.T, steps int) impl.Sys {
	return played(t, relay(t), []int{0, 0, 1, 1, 1, 1, 0, 0, 0, 1}[:steps]...)
}

// stopsOf is stops of each kind, of each process: at its places and one beyond them, of each number that it had, and of some more.
func stopsOf(s impl.Sys) []impl.Stop {
	list := []impl.Stop{}
	for p, events := range s.Hist {
		for v := -1; v <= len(s.Progs[p]); v++ {
			list = append(list, stopAt(p, v))
		}
		nums := []int{0, 1, -impl.MaxNum, impl.MaxNum + 1}
		for _, e := range events {
			nums = append(nums, e.V)
		}
		slices.Sort(nums)
		for _, v := range slices.Compact(nums) {
			list = append(list, stopOut(p, v), stopTake(p, v))
		}
	}
	return list
}

func TestKindsOfStops(t *testing.T) {
	if impl.StopAt != 1 || impl.StopOut != 2 || impl.StopTake != 3 {
		t.Error(impl.StopAt, impl.StopOut, impl.StopTake)
	}
}

func TestNoStopsInWhatIsNotRight(t *testing.T) {
	for _, s := range append(wrongSystems(t), wrongInOne(t)...) {
		if wantSysOk(s) {
			t.Fatalf("it is right: %+v", s)
		}
		for _, p := range []int{math.MinInt, -1, 0, 1, 2, 3, 4, 5, 9, math.MaxInt} {
			for kind := -1; kind <= 5; kind++ {
				nums := []int{0}
				if p >= 0 && p < len(s.States) {
					nums = append(nums, s.States[p].At)
				}
				for _, v := range nums {
					holdNoStop(t, "not right", s, impl.Stop{P: p, Kind: kind, V: v})
				}
			}
		}
	}
}

// Of what is right in a system that is not, and would be so, nothing is told either.
func TestNoStopsWhereOneThingOfAnotherIsWrong(t *testing.T) {
	right := relayed(t, 7)
	stops := []impl.Stop{stopAt(0, 3), stopTake(0, 6)}
	printed := relayed(t, 8)
	for _, c := range []struct {
		s     impl.Sys
		stops []impl.Stop
	}{{right, stops}, {printed, []impl.Stop{stopAt(0, 4), stopOut(0, 6)}}} {
		for _, x := range c.stops {
			holdHolds(t, "it is right", c.s, x, true)
			for _, wrong := range []impl.Sys{
				but(c.s, func(s *impl.Sys) { s.States[1].Regs[3]++ }),
				but(c.s, func(s *impl.Sys) { s.States[0].Regs[3]++ }),
				but(c.s, func(s *impl.Sys) { s.Ways[3] = []impl.Item{{V: 1}} }),
				but(c.s, func(s *impl.Sys) { s.Ways[0] = []impl.Item{{Mark: true, V: 1}} }),
				but(c.s, func(s *impl.Sys) { s.Progs[1] = append(s.Progs[1], impl.Ins{}) }),
			} {
				holdNoStop(t, "one thing is wrong", wrong, x)
			}
		}
	}
}

func TestStopsOfProcesses(t *testing.T) {
	for n := 1; n <= 4; n++ {
		for _, s := range []impl.Sys{stairs(t, n), marked(stairs(t, n)), wantNew(slices.Repeat([][]impl.Ins{program(t, "end")}, n)...)} {
			for _, p := range append(wild(), -n, -2, -1, 0, n-1, n, n+1, 2*n, 200) {
				for kind := 1; kind <= 3; kind++ {
					for _, v := range []int{0, 1, -1} {
						x := impl.Stop{P: p, Kind: kind, V: v}
						if got := impl.StopOk(s, x); got != (p >= 0 && p < n) {
							t.Fatalf("StopOk of %+v among %d is %v", x, n, got)
						}
						holdStop(t, "a process or none", s, x)
						if p < 0 || p >= n {
							holdNoStop(t, "no process", s, x)
						}
					}
				}
			}
		}
	}
}

func TestStopsOfKinds(t *testing.T) {
	for steps := range 11 {
		s := relayed(t, steps)
		for _, kind := range append(wild(), -3, -2, -1, 0, 1, 2, 3, 4, 5, 6, 7) {
			for p := range 2 {
				for _, v := range []int{0, s.States[p].At, 5, 6} {
					x := impl.Stop{P: p, Kind: kind, V: v}
					if got := impl.StopOk(s, x); got != (kind == 1 || kind == 2 || kind == 3) {
						t.Fatalf("StopOk of %+v is %v", x, got)
					}
					holdStop(t, "a kind or none", s, x)
					if kind < 1 || kind > 3 {
						holdNoStop(t, "no kind", s, x)
					}
				}
			}
		}
	}
}

// V may be any number: what is no place, or beyond MaxNum, is only never so.
func TestStopsOfAnyNumber(t *testing.T) {
	for steps := range 11 {
		s := relayed(t, steps)
		for kind := 1; kind <= 3; kind++ {
			for p := range 2 {
				for _, v := range append(wild(), 6, 7, math.MinInt+1, math.MaxInt-1) {
					x := impl.Stop{P: p, Kind: kind, V: v}
					if !impl.StopOk(s, x) {
						t.Fatalf("StopOk of %+v is false", x)
					}
					holdStop(t, "any number", s, x)
					if v < 0 || v > 6 {
						holdHolds(t, "a number that never comes", s, x, false)
						holdLast(t, "a number that never comes", s, x, -1)
						holdUntil(t, "a number that never comes", s, each(0, 1, 0, 1), x, 4)
					}
				}
			}
		}
	}
}

func TestStopsAtPlaces(t *testing.T) {
	// As many places as there can be; each process is at another one.
	list := append(slices.Repeat(program(t, "set 0 7"), 29), program(t, "end")...)
	for n := 1; n <= 4; n++ {
		for at := range 30 {
			s := wantNew(slices.Repeat([][]impl.Ins{list}, n)...)
			for p := range n {
				for range (at + 7*p) % 30 {
					play(&s, p, 0)
				}
			}
			for p := range n {
				here := (at + 7*p) % 30
				for _, v := range []int{-1, 0, here - 1, here, here + 1, 28, 29, 30} {
					holdHolds(t, "at a place", s, stopAt(p, v), v == here)
				}
			}
		}
	}
}

func TestStopsAtPlacesOfWhatDoesNotRun(t *testing.T) {
	cases := []struct {
		what  string
		lines []string
		steps int
		at    int
		code  int
	}{
		{"ended at the last place", []string{"set 0 1", "end"}, 2, 1, impl.StEnd},
		{"ended at the only place", []string{"end"}, 1, 0, impl.StEnd},
		{"ended in the middle", []string{"set 0 1", "end", "set 0 2", "end"}, 2, 1, impl.StEnd},
		{"a number too great", []string{"set 0 40000", "mul 0 0 0", "end"}, 2, 1, impl.StFault},
		{"a number too great at the last place", []string{"set 0 40000", "mul 0 0 0"}, 2, 1, impl.StFault},
		{"behind the last place", []string{"set 0 1", "set 0 2"}, 2, 1, impl.StFault},
		{"a print behind the last place", []string{"set 0 1", "print 0"}, 2, 1, impl.StFault},
		{"a send behind the last place", []string{"set 0 1", "jump 2", "send 0 0"}, 3, 2, impl.StFault},
	}
	for _, c := range cases {
		for n := 1; n <= 3; n++ {
			p := n - 1
			progs := append(slices.Repeat([][]impl.Ins{program(t, "set 3 1", "jump 0")}, p), program(t, c.lines...))
			s := played(t, progs, many(c.steps, p)...)
			if s.States[p].Code != c.code || s.States[p].At != c.at {
				t.Fatalf("%s: %+v", c.what, s.States[p])
			}
			for v := -1; v <= len(c.lines)+1; v++ {
				holdHolds(t, c.what, s, stopAt(p, v), v == c.at)
			}
			// It was there ahead of its last event too; the greater number counts.
			holdLast(t, c.what, s, stopAt(p, c.at), c.steps)
			holdLast(t, c.what, s, stopAt(p, len(c.lines)), -1)
		}
	}
}

func TestStopsAtWhatWasPrinted(t *testing.T) {
	s := wantNew(program(t, "set 1 4", "print 0", "print 1", "set 2 9", "print 0", "print 1", "print 1", "end"), program(t, "set 0 8", "print 0", "end"))
	// The last number behind each event; behind those without nothing was printed.
	want := map[int]int{2: 0, 3: 4, 4: 4, 5: 0, 6: 4, 7: 4, 8: 4}
	for k := 0; ; k++ {
		last, printed := want[k]
		for _, v := range []int{-4, -1, 0, 1, 4, 5, 8, 9} {
			holdHolds(t, "printed", s, stopOut(0, v), printed && v == last)
			holdHolds(t, "the other", s, stopOut(1, v), false)
		}
		if !play(&s, 0, 0) {
			break
		}
	}
	if s.States[0].Code != impl.StEnd {
		t.Fatalf("%+v", s)
	}
	play(&s, 1, 0)
	holdHolds(t, "not printed yet", s, stopOut(1, 8), false)
	play(&s, 1, 0)
	holdHolds(t, "printed by the other", s, stopOut(1, 8), true)
	holdHolds(t, "not by this one", s, stopOut(0, 8), false)
	for _, v := range []int{impl.MaxNum, -impl.MaxNum, -1} {
		s := wantNew([]impl.Ins{{Op: impl.OpSet, N: v}, {Op: impl.OpPrint}, {Op: impl.OpEnd}})
		play(&s, 0, 0)
		play(&s, 0, 0)
		for _, other := range []int{v - 1, v, v + 1, -v} {
			holdHolds(t, "the ends of what can be printed", s, stopOut(0, other), other == v)
		}
	}
}

// The print that was one too many is an event, but stands in Out no more.
func TestStopsAtAPrintTooMany(t *testing.T) {
	// Two a round are 58; then another 5, and 6, are 60.
	lines := []string{"set 1 29", "set 2 1", "set 0 5", "print 0", "print 0", "sub 1 1 2", "zero 1 8", "jump 3", "print 0", "set 0 6", "print 0", "set 0 7", "print 0", "end"}
	s := wantNew(program(t, lines...))
	events := 0
	for play(&s, 0, 0) {
		events++
	}
	if s.States[0].Code != impl.StFault || len(s.States[0].Out) != 60 || s.Hist[0][events-1] != (impl.Event{Kind: impl.EvPrint, V: 7}) {
		t.Fatalf("%+v", s)
	}
	holdHolds(t, "it stands there", s, stopOut(0, 6), true)
	holdHolds(t, "it was too many", s, stopOut(0, 7), false)
	holdLast(t, "it stands there", s, stopOut(0, 6), events)
	holdLast(t, "it was too many", s, stopOut(0, 7), -1)
	holdLast(t, "ahead of the last one", s, stopOut(0, 5), events-3)
	holdLast(t, "where it went wrong", s, stopAt(0, 12), events)
}

func TestStopsAtWhatWasTaken(t *testing.T) {
	progs := [][]impl.Ins{
		program(t, "set 0 5", "send 0 0", "send 1 0", "take 1 0", "set 0 6", "send 1 0", "end"),
		program(t, "take 0 0", "print 0", "take 0 any", "send 1 0", "take 3 any", "take 3 0", "end"),
	}
	s := wantNew(progs...)
	none := func(what string, p int) {
		t.Helper()
		for _, v := range []int{-1, 0, 1, 5, 6} {
			holdHolds(t, what, s, stopTake(p, v), false)
		}
	}
	took := func(what string, p, v int) {
		t.Helper()
		for _, other := range []int{-v, 0, v - 1, v, v + 1} {
			holdHolds(t, what, s, stopTake(p, other), other == v)
		}
	}
	none("no event yet", 0)
	none("no event yet", 1)
	play(&s, 0, 0)
	none("a local event", 0)
	play(&s, 0, 0)
	none("a send of 5", 0)
	play(&s, 0, 0)
	play(&s, 0, 0)
	took("from oneself", 0, 5)
	none("not by this one", 1)
	play(&s, 1, 0)
	took("from another one", 1, 5)
	took("still, whatever another one does", 0, 5)
	play(&s, 0, 0)
	none("ahead of a local event", 0)
	play(&s, 1, 0)
	none("ahead of a print of it", 1)
	play(&s, 0, 0)
	none("ahead of a send", 0)
	play(&s, 1, 0)
	took("from whichever", 1, 6)
	play(&s, 1, 0)
	none("ahead of a send of it", 1)
	play(&s, 1, 1)
	took("from whichever, oneself", 1, 6)
	holdLast(t, "once", s, stopTake(1, 5), 1)
	holdLast(t, "twice", s, stopTake(1, 6), 5)
	holdLast(t, "by the other", s, stopTake(0, 5), 4)
	holdLast(t, "never", s, stopTake(0, 6), -1)
}

// A take of nought is one; what is no take has no number that counts, whatever stands in it.
func TestStopsAtATakeOfNought(t *testing.T) {
	s := played(t, [][]impl.Ins{program(t, "send 1 0", "jump 0"), program(t, "set 1 1", "take 0 0", "jump 1")}, 0)
	holdHolds(t, "nothing", s, stopTake(1, 0), false)
	play(&s, 1, 0)
	holdHolds(t, "a local event", s, stopTake(1, 0), false)
	holdHolds(t, "a send of nought", s, stopTake(0, 0), false)
	play(&s, 1, 0)
	holdHolds(t, "a take of nought", s, stopTake(1, 0), true)
	play(&s, 1, 0)
	holdHolds(t, "a jump behind it", s, stopTake(1, 0), false)
	holdLast(t, "a take of nought", s, stopTake(1, 0), 2)
	// Behind the last place it goes wrong, and is a take still.
	s = played(t, [][]impl.Ins{program(t, "set 0 5", "send 0 0", "take 1 0")}, 0, 0, 0)
	if s.States[0].Code != impl.StFault {
		t.Fatalf("%+v", s)
	}
	holdHolds(t, "gone wrong by a take", s, stopTake(0, 5), true)
	holdLast(t, "gone wrong by a take", s, stopTake(0, 5), 3)
}

func TestUntilSpelledOut(t *testing.T) {
	s := relayed(t, 0)
	list := each(0, 0, 1, 1, 1, 1, 0, 0, 0, 1)
	for _, c := range []struct {
		what string
		x    impl.Stop
		n    int
	}{
		{"behind the first", stopAt(0, 1), 1},
		{"behind the second", stopAt(0, 2), 2},
		{"a place of the other", stopAt(1, 1), 3},
		{"a take", stopTake(1, 5), 4},
		{"the place behind the last one but one", stopAt(1, 4), 6},
		{"what came back", stopTake(0, 6), 7},
		{"what was printed", stopOut(0, 6), 8},
		{"the last place", stopAt(0, 4), 8},
		{"it was there, and is behind a step of the other", stopAt(1, 0), 1},
		{"it was there alone", stopAt(0, 0), 10},
		{"no place", stopAt(0, 5), 10},
		{"nobody printed it", stopOut(0, 5), 10},
		{"the other printed it", stopOut(1, 6), 10},
		{"nobody took it", stopTake(1, 6), 10},
		{"the other took it", stopTake(0, 5), 10},
		{"it was sent alone", stopTake(1, 0), 10},
	} {
		got := holdUntil(t, c.what, s, list, c.x, c.n)
		holdHolds(t, c.what, got, c.x, c.n < 10)
		if !sameSys(got, relayed(t, c.n)) {
			t.Errorf("%s: %+v", c.what, got)
		}
		// With no more than these, and with none too few.
		if c.n < 10 {
			holdUntil(t, c.what, s, list[:c.n], c.x, c.n)
			without := holdUntil(t, c.what, s, list[:c.n-1], c.x, c.n-1)
			if !sameSys(without, relayed(t, c.n-1)) {
				t.Errorf("%s: %+v", c.what, without)
			}
		}
	}
}

func TestUntilOfAnEmptyList(t *testing.T) {
	for steps := range 11 {
		for _, s := range []impl.Sys{relayed(t, steps), marked(relayed(t, steps))} {
			for _, x := range stopsOf(s) {
				for _, list := range [][]impl.Pick{nil, {}} {
					if got := holdUntil(t, "an empty list", s, list, x, 0); !sameSys(got, s) {
						t.Errorf("it is not as it was: %+v", got)
					}
				}
			}
		}
	}
}

func TestUntilPicksMetAndPassed(t *testing.T) {
	s := wantNew(program(t, "jump 0"), program(t, "jump 0"))
	x := stopAt(1, 0)
	for _, count := range []int{1, 2, 199, 200} {
		holdUntil(t, "none of them is done", s, each(many(count, 7)...), x, count)
		last := slices.Concat(each(many(count-1, 7)...), each(0))
		if got := holdUntil(t, "the last of all", s, last, x, count); len(got.Hist[0]) != 1 {
			t.Errorf("%+v", got)
		}
		if got := holdUntil(t, "all of them, and never", s, each(many(count, 0)...), stopAt(0, 1), count); len(got.Hist[0]) != count {
			t.Errorf("%+v", got)
		}
		holdUntil(t, "the first alone", s, each(many(count, 1)...), x, 1)
	}
	for _, count := range []int{201, 202, 400, 100000} {
		for _, p := range []int{0, 1, 7} {
			// None of them is done, though it would be so behind the first.
			holdUntil(t, "too many", s, each(many(count, p)...), x, -1)
			holdUntil(t, "too many, and never", s, each(many(count, p)...), stopAt(0, 1), -1)
		}
	}
	// The list has room for more behind what is handed in.
	roomy := each(many(400, 7)...)
	holdUntil(t, "room behind it", s, roomy[:200], x, 200)
	holdUntil(t, "room behind one too many", s, roomy[:201], x, -1)
}

// It is so behind the last one that can be of the list, and of the events of a process.
func TestUntilTheLastEventThatCanBe(t *testing.T) {
	for n := 1; n <= 4; n++ {
		p := n - 1
		s := wantNew(worn(t, n, p, 199, "print 1").Progs...)
		list := each(many(200, p)...)
		got := holdUntil(t, "behind 200", s, list, stopOut(p, 1), 200)
		holdHolds(t, "behind 200", got, stopOut(p, 1), true)
		holdLast(t, "behind 200", got, stopOut(p, 1), 200)
		holdUntil(t, "behind 199", s, list, stopAt(p, 5), 199)
		holdUntil(t, "one too few", s, list[:199], stopOut(p, 1), 199)
		// Full of events it goes on no more, so that what is so already ends nothing.
		holdUntil(t, "full of events", got, list, stopOut(p, 1), 200)
		if full := holdUntil(t, "full of events", got, list[:7], stopAt(p, 6), 7); !sameSys(full, got) {
			t.Errorf("%+v", full)
		}
	}
}

// What was so ahead of the first step counts only behind a step that is done.
func TestUntilWhatIsSoAlready(t *testing.T) {
	// The second is where it is asked for from the beginning on; it waits.
	s := wantNew(program(t, "set 0 5", "send 1 0", "jump 0"), program(t, "take 0 0", "take 1 any", "jump 0"))
	x := stopAt(1, 0)
	holdHolds(t, "so already", s, x, true)
	holdUntil(t, "a step of another one", s, each(0, 0), x, 1)
	holdUntil(t, "steps that are not done", s, each(1, 2, -1, 1), x, 4)
	holdUntil(t, "one that is done behind them", s, each(1, 2, -1, 1, 0, 0), x, 5)
	sent, _ := impl.Run(s, each(0, 0, 0, 0, 0, 0))
	holdHolds(t, "so still", sent, x, true)
	holdUntil(t, "away from it, and round to it", sent, each(1, 1, 1, 1, 1), x, 3)
	holdUntil(t, "away from it, and no further", sent, each(1, 0, 1), x, 3)
	// What was printed stays so through other steps, what was taken does not.
	got := relayed(t, 8)
	holdUntil(t, "printed already, and a step", got, each(1, 0), stopOut(0, 6), 1)
	holdUntil(t, "taken already, and a step of another one", relayed(t, 4), each(0, 1, 0), stopTake(1, 5), 3)
	holdUntil(t, "taken already, and a step of one who can", relayed(t, 7), each(1, 0), stopTake(0, 6), 1)
	holdUntil(t, "taken already, and a step of itself", relayed(t, 7), each(0, 1, 0), stopTake(0, 6), 3)
}

// A step that is not done ends nothing, whyever it is not.
func TestUntilGoesThroughEachCode(t *testing.T) {
	free := crowd(t)
	full := but(free, func(s *impl.Sys) { s.Ways[12] = slices.Repeat([]impl.Item{{Mark: true}}, 12) })
	held := but(free, func(s *impl.Sys) { s.Ways[14] = []impl.Item{{Mark: true}} })
	tired := worn(t, 2, 1, 200, "jump 0")
	tired.Progs[0] = program(t, "add 0 0 1", "jump 0")
	for _, c := range []struct {
		what string
		s    impl.Sys
		pick impl.Pick
		code int
	}{
		{"no process", free, impl.Pick{P: 4}, impl.RsNone},
		{"no process below 0", free, impl.Pick{P: -1}, impl.RsNone},
		{"no process at all", free, impl.Pick{P: math.MinInt, Peer: math.MaxInt}, impl.RsNone},
		{"no peer", free, impl.Pick{P: 2, Peer: 4}, impl.RsNone},
		{"Any is no peer", free, impl.Pick{P: 2, Peer: impl.Any}, impl.RsNone},
		{"nothing comes", free, impl.Pick{P: 2, Peer: 3}, impl.RsWait},
		{"a mark is first", held, impl.Pick{P: 2, Peer: 3}, impl.RsMark},
		{"over", free, impl.Pick{P: 1}, impl.RsOver},
		{"a full way", full, impl.Pick{P: 3}, impl.RsFull},
		{"full of events", tired, impl.Pick{P: 1}, impl.RsFull},
	} {
		if _, code := impl.Step(c.s, c.pick.P, c.pick.Peer); code != c.code {
			t.Fatalf("%s: the code is %d", c.what, code)
		}
		for p := range c.s.Progs {
			x := stopAt(p, c.s.States[p].At)
			holdHolds(t, c.what, c.s, x, true)
			list := slices.Repeat([]impl.Pick{c.pick}, 5)
			if got := holdUntil(t, c.what, c.s, list, x, 5); !sameSys(got, c.s) {
				t.Errorf("%s: it is not as it was: %+v", c.what, got)
			}
			if p > 0 {
				got := holdUntil(t, c.what, c.s, append(list, each(0, 0, 0)...), x, 6)
				if len(got.Hist[0]) != len(c.s.Hist[0])+1 {
					t.Errorf("%s: %+v", c.what, got)
				}
			}
		}
		// The first one goes away from its place and comes round to it.
		between := []impl.Pick{c.pick, {}, c.pick, c.pick, {}, c.pick, {}}
		got := holdUntil(t, c.what, c.s, between, stopAt(0, 0), 5)
		if len(got.Hist[0]) != len(c.s.Hist[0])+2 {
			t.Errorf("%s: %+v", c.what, got)
		}
		holdUntil(t, c.what, c.s, between, stopAt(0, 7), 7)
	}
}

// It ends where it is so first, though it would be so again.
func TestUntilEndsAtTheFirst(t *testing.T) {
	s := wantNew(program(t, "set 0 3", "print 0", "set 0 4", "print 0", "jump 0"), program(t, "send 1 0", "take 0 1", "jump 0"))
	long := each(many(60, 0)...)
	holdUntil(t, "the first 3", s, long, stopOut(0, 3), 2)
	holdUntil(t, "the first 4", s, long, stopOut(0, 4), 4)
	holdUntil(t, "the first time round", s, long, stopAt(0, 0), 5)
	holdUntil(t, "the first take", s, each(many(60, 1)...), stopTake(1, 0), 2)
	// From there on it goes to the next one.
	at, list := s, each(many(60, 1)...)
	for range 10 {
		got, n := impl.Until(at, list, stopTake(1, 0))
		want := 3
		if len(at.Hist[1]) == 0 {
			want = 2
		}
		if n != want || !impl.Holds(got, stopTake(1, 0)) || len(got.Hist[1]) != len(at.Hist[1])+n {
			t.Fatalf("Until(%+v) is %+v, %d", at, got, n)
		}
		at, list = got, list[n:]
	}
}

// Whom it takes from is told by the picks, and with it where it ends.
func TestUntilTakesFromWhomThePicksTell(t *testing.T) {
	progs := [][]impl.Ins{program(t, "set 0 10", "send 3 0", "end"), program(t, "set 0 11", "send 3 0", "end"), program(t, "set 0 12", "send 3 0", "end"),
		program(t, "take 0 any", "print 0", "jump 0")}
	s := played(t, progs, 0, 0, 1, 1, 2, 2)
	for _, order := range threes() {
		list := []impl.Pick{}
		for _, peer := range order {
			list = append(list, impl.Pick{P: 3, Peer: peer}, impl.Pick{P: 3, Peer: peer}, impl.Pick{P: 3, Peer: peer})
		}
		for i, peer := range order {
			holdUntil(t, "taken", s, list, stopTake(3, 10+peer), 3*i+1)
			holdUntil(t, "printed", s, list, stopOut(3, 10+peer), 3*i+2)
		}
		holdUntil(t, "neither", s, list, stopTake(3, 13), 9)
	}
}

func TestLastSpelledOut(t *testing.T) {
	for _, s := range []impl.Sys{relayed(t, 10), marked(relayed(t, 10))} {
		for _, c := range []struct {
			what string
			x    impl.Stop
			want int
		}{
			{"behind no event alone", stopAt(0, 0), 0},
			{"behind one", stopAt(0, 1), 1},
			{"behind two", stopAt(0, 2), 2},
			{"behind three", stopAt(0, 3), 3},
			{"behind all, and the one ahead of that", stopAt(0, 4), 5},
			{"no place", stopAt(0, 5), -1},
			{"no place below 0", stopAt(0, -1), -1},
			{"behind no event of the other", stopAt(1, 0), 0},
			{"behind all of the other", stopAt(1, 4), 5},
			{"printed, and not only then", stopOut(0, 6), 5},
			{"never printed", stopOut(0, 5), -1},
			{"never printed, as nothing was", stopOut(0, 0), -1},
			{"printed by the other", stopOut(1, 6), -1},
			{"taken", stopTake(0, 6), 3},
			{"taken by the other", stopTake(1, 5), 2},
			{"sent, not taken", stopTake(0, 5), -1},
			{"never taken", stopTake(1, 0), -1},
		} {
			holdLast(t, c.what, s, c.x, c.want)
		}
	}
}

func TestLastOfNoEvents(t *testing.T) {
	for n := 1; n <= 4; n++ {
		s := wantNew(slices.Repeat([][]impl.Ins{program(t, "take 0 any", "print 0", "end")}, n)...)
		for p := range n {
			holdLast(t, "it begins there", s, stopAt(p, 0), 0)
			for _, v := range []int{-1, 1, 2, 3} {
				holdLast(t, "not there", s, stopAt(p, v), -1)
			}
			for _, v := range []int{-1, 0, 1} {
				holdLast(t, "nothing printed", s, stopOut(p, v), -1)
				holdLast(t, "nothing taken", s, stopTake(p, v), -1)
			}
		}
	}
}

// Where it was so several times the greatest number counts.
func TestLastOfSeveral(t *testing.T) {
	// Behind the first two places it goes round three: it prints 3, then 8, and jumps.
	s := wantNew(program(t, "end"), program(t, "set 0 3", "set 1 8", "print 0", "print 1", "jump 2"))
	for k := range 60 {
		// Behind k events it is at 0, 1, 2, 3, 4, 2, 3, 4, ..
		for v := range 5 {
			want := v
			switch {
			case k < v:
				want = -1
			case v >= 2:
				want = k - (k-v)%3
			}
			holdLast(t, "round and round", s, stopAt(1, v), want)
		}
		three, eight := -1, -1
		for i := range k + 1 {
			if i >= 3 && i%3 == 0 {
				three = i
			}
			if i >= 4 && i%3 != 0 {
				eight = i
			}
		}
		holdLast(t, "printed again and again", s, stopOut(1, 3), three)
		holdLast(t, "printed again and again", s, stopOut(1, 8), eight)
		if !play(&s, 1, 0) {
			t.Fatalf("it goes on no more: %+v", s)
		}
	}
	// Taken from one and another in turn, and a jump behind each take.
	order := []int{0, 1, 2, 0, 1, 2, 2}
	for k := range len(order) + 1 {
		holdLast(t, "whoever it is from", takesFrom(t, order[:k]...), stopTake(3, 0), 2*k-1)
	}
}

// Only what happened to P is asked for, and counted.
func TestLastCountsEventsOfOne(t *testing.T) {
	for n := 2; n <= 4; n++ {
		for p := range n {
			progs := slices.Repeat([][]impl.Ins{program(t, "set 0 9", "print 0", "jump 0")}, n)
			progs[p] = program(t, "set 0 4", "print 0", "set 0 5", "print 0", "end")
			list := []int{}
			for range 5 {
				for q := range n {
					list = append(list, q)
				}
			}
			s := played(t, progs, list...)
			holdLast(t, "its own", s, stopOut(p, 4), 3)
			holdLast(t, "its own", s, stopOut(p, 5), 5)
			holdLast(t, "of the others", s, stopOut(p, 9), -1)
			holdLast(t, "its own place", s, stopAt(p, 3), 3)
			for q := range n {
				if q != p {
					holdLast(t, "another one's", s, stopOut(q, 9), 5)
					holdLast(t, "another one's", s, stopOut(q, 4), -1)
				}
			}
		}
	}
}

func TestLastOfAsManyEventsAsThereCanBe(t *testing.T) {
	s := worn(t, 3, 2, 200, "end")
	if len(s.Hist[2]) != 200 {
		t.Fatal(len(s.Hist[2]))
	}
	for v, want := range []int{0, 1, 197, 198, 196, 199, 200, -1} {
		holdLast(t, "as many as can be", s, stopAt(2, v), want)
	}
	idle := wantNew(program(t, "jump 0"))
	for range 200 {
		play(&idle, 0, 0)
	}
	holdLast(t, "always", idle, stopAt(0, 0), 200)
	holdLast(t, "never", idle, stopAt(0, 1), -1)
	progs := [][]impl.Ins{}
	for p := range 4 {
		progs = append(progs, []impl.Ins{{Op: impl.OpSend, N: (p + 1) % 4}, {Op: impl.OpTake, N: impl.Any}, {Op: impl.OpJump}})
	}
	all := wantNew(progs...)
	for range 200 {
		for p := range 4 {
			play(&all, p, (p+3)%4)
		}
	}
	if events(all) != 800 {
		t.Fatal(events(all))
	}
	for p := range 4 {
		holdLast(t, "800 events", all, stopTake(p, 0), 200)
		holdLast(t, "800 events", all, stopAt(p, 0), 198)
		holdLast(t, "800 events", all, stopAt(p, 1), 199)
		holdLast(t, "800 events", all, stopOut(p, 0), -1)
	}
}

// someShow is a system of processes that send, take and print few numbers again and again, so many steps from its beginning if nobody is in the way.
func someShow(r *rand.Rand, steps int) impl.Sys {
	n := r.Intn(4) + 1
	progs := [][]impl.Ins{}
	for range n {
		list := []impl.Ins{{Op: impl.OpSet, R: 1, N: 1}, {Op: impl.OpSet, N: r.Intn(4)}}
		for range r.Intn(6) + 2 {
			list = append(list, [][]impl.Ins{{{Op: impl.OpSend, N: r.Intn(n)}}, {{Op: impl.OpTake, R: 2, N: impl.Any}}, {{Op: impl.OpTake, R: 2, N: impl.Any}, {Op: impl.OpPrint, A: 2}},
				{{Op: impl.OpPrint}}, {{Op: impl.OpAdd, B: 1}}, {{Op: impl.OpSend, N: r.Intn(n)}, {Op: impl.OpSet, N: r.Intn(4)}}}[r.Intn(6)]...)
		}
		progs = append(progs, append(list, impl.Ins{Op: impl.OpJump, N: r.Intn(len(list))}))
	}
	s := wantNew(progs...)
	// Many tries come to nothing.
	for range 6 * steps {
		if events(s) < steps {
			play(&s, r.Intn(n), r.Intn(n))
		}
	}
	return s
}

// someStop is a stop that is often right, and of what was so in s; now and then it is of nobody, or of no kind.
func someStop(r *rand.Rand, s impl.Sys) impl.Stop {
	x := impl.Stop{P: r.Intn(len(s.Hist)), Kind: r.Intn(3) + 1, V: r.Intn(9) - 1}
	nums := []int{}
	for _, e := range s.Hist[x.P] {
		if x.Kind == impl.StopOut && e.Kind == impl.EvPrint || x.Kind == impl.StopTake && e.Kind == impl.EvTake {
			nums = append(nums, e.V)
		}
	}
	if len(nums) > 0 && r.Intn(4) > 0 {
		x.V = nums[r.Intn(len(nums))]
	}
	switch r.Intn(30) {
	case 0:
		x.P = wild()[r.Intn(len(wild()))]
	case 1:
		x.Kind = wild()[r.Intn(len(wild()))]
	case 2:
		x.V = wild()[r.Intn(len(wild()))]
	}
	return x
}

func TestStopsByChance(t *testing.T) {
	r := rand.New(rand.NewSource(80))
	not, holds, was, none := 0, [4]int{}, [4]int{}, [4]int{}
	for range 600 {
		s := someSys(r, r.Intn(150))
		if r.Intn(4) > 0 {
			s = someShow(r, r.Intn(120))
		}
		if r.Intn(8) == 0 {
			someTurn(r, &s)
		}
		for range 12 {
			x := someStop(r, s)
			last := holdStop(t, "by chance", s, x)
			switch {
			case !impl.StopOk(s, x):
				not++
			case impl.Holds(s, x):
				holds[x.Kind]++
			case last >= 0:
				was[x.Kind]++
			default:
				none[x.Kind]++
			}
		}
	}
	for kind := 1; kind <= 3; kind++ {
		if holds[kind] < 80 || was[kind] < 80 || none[kind] < 300 {
			t.Error("few:", not, holds, was, none)
		}
	}
	if not < 400 {
		t.Error("few are not right:", not)
	}
}

func TestUntilByChance(t *testing.T) {
	r := rand.New(rand.NewSource(81))
	ended, never, not := [4]int{}, [4]int{}, 0
	for range 700 {
		s := someSys(r, r.Intn(60))
		if r.Intn(4) > 0 {
			s = someShow(r, r.Intn(40))
		}
		list := somePicks(r, len(s.Progs), []int{r.Intn(20), r.Intn(100), 200, 201}[r.Intn(4)])
		// What is asked for may be of what comes.
		later, _ := wantRun(s, list)
		if r.Intn(12) == 0 {
			someTurn(r, &s)
		}
		for range 4 {
			x := someStop(r, later)
			_, n := wantUntil(s, list, x)
			got := holdUntil(t, "by chance", s, list, x, n)
			switch {
			case n < 0:
				not++
			case n < len(list) || impl.Holds(got, x):
				ended[x.Kind]++
			default:
				never[x.Kind]++
			}
		}
	}
	for kind := 1; kind <= 3; kind++ {
		if ended[kind] < 100 || never[kind] < 100 {
			t.Error("few:", ended, never)
		}
	}
	if not < 300 {
		t.Error("few are not right:", not)
	}
}

// A run ends where it is so first: behind no step ahead of that, which was done, it was so.
func TestUntilIsTheFirstOfItsRun(t *testing.T) {
	r := rand.New(rand.NewSource(82))
	ended, steps := 0, 0
	for range 500 {
		s := someShow(r, r.Intn(30))
		if r.Intn(4) == 0 {
			s = someSys(r, r.Intn(30))
		}
		list := somePicks(r, len(s.Progs), r.Intn(35))
		later, _ := impl.Run(s, list)
		x := someStop(r, later)
		if !impl.StopOk(s, x) {
			continue
		}
		first := len(list)
		for m := len(list); m > 0; m-- {
			then, codes := impl.Run(s, list[:m])
			if codes[m-1] == impl.RsDone && impl.Holds(then, x) {
				first = m
			}
			steps++
		}
		got, n := impl.Until(s, list, x)
		want, _ := impl.Run(s, list[:first])
		if n != first || !sameSys(got, want) {
			t.Fatalf("Until(%+v, %v, %+v) is %+v, %d, not %d", s, list, x, got, n, first)
		}
		if first < len(list) {
			ended++
		}
	}
	if ended < 60 || steps < 2000 {
		t.Error("few:", ended, steps)
	}
}

// Where the first half does not end it, the whole is the one half and then the other.
func TestUntilOfTwoHalves(t *testing.T) {
	r := rand.New(rand.NewSource(83))
	ends, goes := 0, 0
	for range 500 {
		s := someShow(r, r.Intn(40))
		list := somePicks(r, len(s.Progs), r.Intn(60))
		later, _ := impl.Run(s, list)
		x := someStop(r, later)
		if !impl.StopOk(s, x) {
			continue
		}
		half := r.Intn(len(list) + 1)
		want, n := impl.Until(s, list, x)
		then, count := impl.Until(s, list[:half], x)
		_, codes := impl.Run(s, list[:count])
		if count > 0 && codes[count-1] == impl.RsDone && impl.Holds(then, x) {
			ends++
		} else {
			more := 0
			then, more = impl.Until(then, list[half:], x)
			count += more
			goes++
		}
		if count != n || !sameSys(then, want) {
			t.Fatalf("Until(%+v, %v, %+v) is %d, and in halves at %d it is %d", s, list, x, n, half, count)
		}
	}
	if ends < 50 || goes < 200 {
		t.Error("few:", ends, goes)
	}
}

// holdTakenBackTo holds what Last tells against what Replay tells of the first events, and that taken back there it is so.
func holdTakenBackTo(t *testing.T, s impl.Sys, x impl.Stop) int {
	t.Helper()
	last, list, events := impl.Last(s, x), s.Progs[x.P], s.Hist[x.P]
	if last < -1 || last > len(events) {
		t.Fatalf("Last(%+v, %+v) is %d", s, x, last)
	}
	for k := max(last, 0); k <= len(events); k++ {
		state, ok := impl.Replay(list, events[:k])
		if !ok || isSo(state, events[:k], x) != (k == last) {
			t.Fatalf("Last(%+v, %+v) is %d, and behind %d it is %+v", s, x, last, k, state)
		}
	}
	if last < 0 {
		for k := range events {
			if state, _ := impl.Replay(list, events[:k]); isSo(state, events[:k], x) {
				t.Fatalf("Last(%+v, %+v) is %d, and behind %d it is %+v", s, x, last, k, state)
			}
		}
		return -1
	}
	then, how := impl.Back(s, x.P, last)
	if how != impl.BkDone {
		return how
	}
	if len(then.Hist[x.P]) != last || !impl.Holds(then, x) || impl.Last(then, x) != last || !impl.Forth(then, s) {
		t.Fatalf("back at %d of %+v in %+v it is %+v", last, x, s, then)
	}
	return how
}

func TestTakenBackToTheLastItIsSo(t *testing.T) {
	r := rand.New(rand.NewSource(84))
	codes := map[int]int{}
	kinds := [4]int{}
	list := []impl.Sys{relayed(t, 10), marked(relayed(t, 9)), talk(t), underWay(t), crowd(t), stairs(t, 4), ring(3, 5, 2), roundTrip(t, []int{1, 2, 0}, 4),
		chain(t, []int{2, 0, 3, 1}, 1), gate(t, []int{0, 2, 1}, 10), gate(t, []int{2, 1, 0}, 16), flow(t, 3, 1, 2, 20, 10), toOneself(t, 2, 1), takesFrom(t, 0, 1, 2, 1)}
	for range 150 {
		list = append(list, someChat(r, r.Intn(60)), someSys(r, r.Intn(60)), someShow(r, r.Intn(60)))
	}
	for _, s := range list {
		for _, x := range stopsOf(s) {
			how := holdTakenBackTo(t, s, x)
			codes[how]++
			if how == impl.BkDone {
				kinds[x.Kind]++
			}
		}
	}
	if codes[-1] < 2000 || codes[impl.BkDone] < 1500 || codes[impl.BkFull] < 10 || codes[impl.BkBad]+codes[impl.BkNone] != 0 {
		t.Error("few, or what can't be:", codes)
	}
	if slices.Min(kinds[1:]) < 100 {
		t.Error("few:", kinds)
	}
}

// What a run ended at is, however far it went on from there, no later than the last; and back there it is as it was.
func TestBackToWhereARunEnded(t *testing.T) {
	r := rand.New(rand.NewSource(85))
	done, same := 0, 0
	for range 500 {
		s := someShow(r, r.Intn(20))
		list := somePicks(r, len(s.Progs), 80)
		later, _ := impl.Run(s, list)
		x := someStop(r, later)
		then, n := impl.Until(s, list, x)
		if !impl.Holds(then, x) {
			continue
		}
		k := len(then.Hist[x.P])
		end, _ := impl.Run(then, list[n:])
		if impl.Last(then, x) != k || impl.Last(end, x) < k || !sameSys(end, later) {
			t.Fatalf("it was so behind %d of %+v, and Last(%+v) is %d", k, x, end, impl.Last(end, x))
		}
		back, how := impl.Back(end, x.P, k)
		if how != impl.BkDone {
			continue
		}
		if !impl.Holds(back, x) || !slices.Equal(back.Hist[x.P], then.Hist[x.P]) {
			t.Fatalf("back at %d of %+v it is %+v", k, x, back)
		}
		done++
		if impl.Last(end, x) == k {
			same++
		}
	}
	if done < 150 || same < 30 {
		t.Error("few:", done, same)
	}
}

func TestStopsWriteIntoNothingAndShareNothing(t *testing.T) {
	r := rand.New(rand.NewSource(86))
	odd := impl.Pick{P: -81, Peer: -82}
	not, ended, went := 0, 0, 0
	list := append(stepSystems(t), talk(t), marked(talk(t)), relayed(t, 4), marked(relayed(t, 10)))
	for range 100 {
		list = append(list, someShow(r, r.Intn(40)))
	}
	for _, from := range list {
		for i, given := range layings(from) {
			s, same := given()
			for _, count := range []int{0, 1, 30, 200, 201} {
				picks := append(somePicks(r, max(len(s.Progs), 1), count), odd, odd)
				kept := slices.Clone(picks)
				x := impl.Stop{Kind: r.Intn(3) + 1}
				if later, _ := wantRun(from, picks[:min(count, 200)]); len(later.Hist) > 0 {
					x = someStop(r, later)
				}
				want, told := wantUntil(from, picks[:count], x)
				got, n := impl.Until(s, picks[:count], x)
				again, _ := impl.Until(s, picks[:count], x)
				if n != told || !sameSys(got, want) || !same() || !slices.Equal(picks, kept) {
					t.Fatalf("%d: Until(%+v, %v, %+v) is %+v, %d, or wrote into it", i, from, picks, x, got, n)
				}
				holdApart(t, got)
				if !same() || !sameSys(again, want) || !slices.Equal(picks, kept) {
					t.Fatalf("%d: what comes of Until(%+v, %v, %+v) is shared", i, from, picks, x)
				}
				ok, holds, last := impl.StopOk(s, x), impl.Holds(s, x), impl.Last(s, x)
				if ok != wantStopOk(from, x) || holds != wantHolds(from, x) || last != wantLast(from, x) || !same() {
					t.Fatalf("%d: of %+v in %+v StopOk is %v, Holds %v, Last %d, or wrote into it", i, x, from, ok, holds, last)
				}
				switch {
				case n < 0:
					not++
				case n < count:
					ended++
				default:
					went++
				}
			}
		}
	}
	if not < 800 || ended < 150 || went < 800 {
		t.Error("few:", not, ended, went)
	}
}

// One list in several places of the argument comes out as several.
func TestStopsTellApartWhatIsOne(t *testing.T) {
	for n := 1; n <= 4; n++ {
		list := program(t, "send 0 0", "jump 0")
		regs, marks := make([]int, 4, 9), append(make([]impl.Item, 0, 20), impl.Item{Mark: true})
		s := impl.Sys{Progs: slices.Repeat([][]impl.Ins{list}, n), States: slices.Repeat([]impl.State{{Regs: regs, Out: regs[:0]}}, n),
			Ways: slices.Repeat([][]impl.Item{marks}, n*n), Hist: slices.Repeat([][]impl.Event{make([]impl.Event, 0, 9)}, n)}
		kept := cloneSys(s)
		for p := range n {
			for _, x := range []impl.Stop{stopAt(p, 0), stopAt(p, 1), stopOut(p, 0), stopTake(p, 0)} {
				for _, count := range []int{0, 1, 2, 8, 201} {
					picks := each(many(count, n-1)...)
					_, told := wantUntil(s, picks, x)
					got := holdUntil(t, "one list", s, picks, x, told)
					holdApart(t, got)
				}
				holdStop(t, "one list", s, x)
			}
		}
		if !sameSys(s, kept) || marks[:2][1] != (impl.Item{}) || s.Hist[0][:1][0] != (impl.Event{}) || !slices.Equal(regs[:9], make([]int, 9)) {
			t.Fatalf("it was written into: %+v", s)
		}
	}
}

// What was told stays what it was, whatever becomes of the system and of the list.
func TestWhereARunEndedIsKept(t *testing.T) {
	for _, x := range []impl.Stop{stopAt(0, 1), stopTake(1, 5), stopOut(0, 6), stopOut(0, 7), stopAt(1, 0)} {
		for from := range 10 {
			s, list := relayed(t, from), each([]int{0, 0, 1, 1, 1, 1, 0, 0, 0, 1}[from:]...)
			want, n := wantUntil(s, list, x)
			got, count := impl.Until(s, list, x)
			holdApart(t, s)
			wipe([][]impl.Pick{list}, impl.Pick{P: -9, Peer: -9})
			if count != n || !sameSys(got, want) {
				t.Errorf("%+v, %d", got, count)
			}
		}
	}
}
