package tests

import (
	"math"
	"math/rand"
	"slices"
	"testing"

	"loop.example/g00196/impl"
)

// sameState has an empty list and nil alike.
func sameState(a, b impl.State) bool {
	return a.At == b.At && a.Code == b.Code && slices.Equal(a.Regs, b.Regs) && slices.Equal(a.Out, b.Out)
}

func cloneState(s impl.State) impl.State {
	s.Regs, s.Out = slices.Clone(s.Regs), slices.Clone(s.Out)
	return s
}

// program is that of lines.
func program(t *testing.T, lines ...string) []impl.Ins {
	t.Helper()
	list := []impl.Ins{}
	for _, line := range lines {
		x, ok := impl.InsRead(line)
		if !ok {
			t.Fatalf("no line: %q", line)
		}
		list = append(list, x)
	}
	return list
}

// many is a list of n numbers, all alike.
func many(n, v int) []int {
	list := make([]int, n)
	for i := range list {
		list[i] = v
	}
	return list
}

// fromTo is a state at a place, with registers.
func fromTo(at int, regs ...int) impl.State { return impl.State{At: at, Regs: regs} }

func local() impl.Event { return impl.Event{Kind: impl.EvLocal} }

func TestConstantsOfStates(t *testing.T) {
	got := []int{impl.StRun, impl.StEnd, impl.StFault, impl.MaxOut, impl.EvLocal, impl.EvSend, impl.EvTake, impl.EvPrint}
	if want := []int{0, 1, 2, 60, 1, 2, 3, 4}; !slices.Equal(got, want) {
		t.Error(got)
	}
}

// wantStateOk is StateOk, told once more.
func wantStateOk(list []impl.Ins, s impl.State) bool {
	for _, n := range append(slices.Clone(s.Regs), s.Out...) {
		if n > 1000000000 || n < -1000000000 {
			return false
		}
	}
	return len(s.Regs) == 4 && len(s.Out) <= 60 && s.At >= 0 && s.At < len(list) && slices.Contains([]int{0, 1, 2}, s.Code)
}

func TestStatesMetAndPassed(t *testing.T) {
	list := ends(5, 0)
	right := func(change func(s *impl.State)) bool {
		s := impl.State{At: 2, Regs: []int{1, -2, 3, -4}, Out: []int{7, -8}, Code: impl.StRun}
		change(&s)
		if got := impl.StateOk(list, s); got != wantStateOk(list, s) {
			t.Errorf("StateOk(%+v) is %v", s, got)
		}
		return impl.StateOk(list, s)
	}
	if !right(func(*impl.State) {}) {
		t.Error("a right state")
	}
	for n := range 9 {
		if right(func(s *impl.State) { s.Regs = make([]int, n) }) != (n == 4) {
			t.Error("registers", n)
		}
	}
	if right(func(s *impl.State) { s.Regs = nil }) || right(func(s *impl.State) { s.Regs = []int{1, 2, 3} }) || right(func(s *impl.State) { s.Regs = []int{1, 2, 3, 4, 5} }) {
		t.Error("registers")
	}
	for _, n := range wild() {
		in := -impl.MaxNum <= n && n <= impl.MaxNum
		for i := range 4 {
			if right(func(s *impl.State) { s.Regs[i] = n }) != in {
				t.Error("register", i, n)
			}
		}
		for _, out := range [][]int{{n}, {n, 0}, {0, n}, append(many(59, 1), n), append([]int{n}, many(59, 1)...)} {
			if right(func(s *impl.State) { s.Out = out }) != in {
				t.Error("out", n)
			}
		}
		if right(func(s *impl.State) { s.Code = n }) != (n == 0 || n == 1 || n == 2) {
			t.Error("code", n)
		}
		if right(func(s *impl.State) { s.At = n }) != (n >= 0 && n < 5) {
			t.Error("at", n)
		}
	}
	for n, want := range map[int]bool{0: true, 1: true, 59: true, 60: true, 61: false, 62: false, 100000: false} {
		if right(func(s *impl.State) { s.Out = many(n, 1) }) != want {
			t.Error("out of", n)
		}
	}
	if !right(func(s *impl.State) { s.Out = nil }) {
		t.Error("nothing printed")
	}
}

func TestAtIsAPlaceOfTheList(t *testing.T) {
	for _, places := range []int{0, 1, 2, 29, 30, 31, 200} {
		list := ends(places, 0)
		for _, at := range append(wild(), places-1, places, places+1) {
			s := fromTo(at, 0, 0, 0, 0)
			if impl.StateOk(list, s) != (at >= 0 && at < places) {
				t.Error(places, at)
			}
		}
	}
	if impl.StateOk(nil, impl.StateNew()) || impl.StateOk(nil, impl.State{}) || impl.StateOk(ends(1, 0), impl.State{}) {
		t.Error("nothing is right")
	}
	// Only the number of places counts, not what they are.
	if !impl.StateOk([]impl.Ins{{Op: 77, R: -1}}, impl.StateNew()) {
		t.Error("a list that is no program")
	}
}

func TestNewStates(t *testing.T) {
	s := impl.StateNew()
	if !sameState(s, fromTo(0, 0, 0, 0, 0)) || !impl.StateOk(ends(1, 0), s) {
		t.Errorf("%+v", s)
	}
	s.Regs[2] = 5
	if other := impl.StateNew(); other.Regs[2] != 0 {
		t.Error("two new states share registers")
	}
}

// stepCase is one step: of the line that stands at a place among others that end.
type stepCase struct {
	line   string
	places int
	before impl.State
	next   impl.Event
	e      impl.Event
	after  impl.State
}

func rightSteps() []stepCase {
	const top = impl.MaxNum
	take := func(peer, v int) impl.Event { return impl.Event{Kind: impl.EvTake, Peer: peer, V: v} }
	send := func(peer, v int) impl.Event { return impl.Event{Kind: impl.EvSend, Peer: peer, V: v} }
	show := func(v int) impl.Event { return impl.Event{Kind: impl.EvPrint, V: v} }
	out := func(s impl.State, list ...int) impl.State { s.Out = list; return s }
	code := func(s impl.State, c int) impl.State { s.Code = c; return s }
	return []stepCase{
		{"set 2 5", 3, fromTo(1, 1, 2, 3, 4), local(), local(), fromTo(2, 1, 2, 5, 4)},
		{"set 0 1000000000", 3, fromTo(0, 1, 2, 3, 4), local(), local(), fromTo(1, top, 2, 3, 4)},
		{"set 3 -1000000000", 3, out(fromTo(0, 1, 2, 3, 4), 8), local(), local(), out(fromTo(1, 1, 2, 3, -top), 8)},
		{"add 0 1 2", 3, fromTo(0, 1, 20, 300, 4), local(), local(), fromTo(1, 320, 20, 300, 4)},
		{"add 1 1 1", 3, fromTo(0, 1, 20, 300, 4), local(), local(), fromTo(1, 1, 40, 300, 4)},
		{"add 3 0 1", 3, fromTo(0, top-1, 1, 0, 4), local(), local(), fromTo(1, top-1, 1, 0, top)},
		{"add 3 0 1", 3, fromTo(0, 1-top, -1, 0, 4), local(), local(), fromTo(1, 1-top, -1, 0, -top)},
		{"sub 0 1 2", 3, fromTo(0, 1, 20, 300, 4), local(), local(), fromTo(1, -280, 20, 300, 4)},
		{"sub 0 2 1", 3, fromTo(0, 1, 20, 300, 4), local(), local(), fromTo(1, 280, 20, 300, 4)},
		{"sub 2 0 0", 3, fromTo(0, top, 20, 300, 4), local(), local(), fromTo(1, top, 20, 0, 4)},
		{"sub 2 3 0", 3, fromTo(0, top, 20, 300, 0), local(), local(), fromTo(1, top, 20, -top, 0)},
		{"mul 0 1 2", 3, fromTo(0, 1, -20, 300, 4), local(), local(), fromTo(1, -6000, -20, 300, 4)},
		{"mul 0 1 2", 3, fromTo(0, 1, 31250, 32000, 4), local(), local(), fromTo(1, top, 31250, 32000, 4)},
		{"mul 0 1 2", 3, fromTo(0, 1, -31250, 32000, 4), local(), local(), fromTo(1, -top, -31250, 32000, 4)},
		{"mul 0 1 2", 3, fromTo(0, 1, 0, top, 4), local(), local(), fromTo(1, 0, 0, top, 4)},
		{"less 0 1 2", 3, fromTo(0, 9, 2, 3, 4), local(), local(), fromTo(1, 1, 2, 3, 4)},
		{"less 0 1 2", 3, fromTo(0, 9, 3, 3, 4), local(), local(), fromTo(1, 0, 3, 3, 4)},
		{"less 0 2 1", 3, fromTo(0, 9, 2, 3, 4), local(), local(), fromTo(1, 0, 2, 3, 4)},
		{"less 3 0 1", 3, fromTo(0, -top, top, 3, 4), local(), local(), fromTo(1, -top, top, 3, 1)},
		{"send 3 1", 3, fromTo(0, 1, 2, 3, 4), send(3, 2), send(3, 2), fromTo(1, 1, 2, 3, 4)},
		{"send 0 3", 3, fromTo(1, 1, 2, 3, -4), send(0, -4), send(0, -4), fromTo(2, 1, 2, 3, -4)},
		{"take 1 2", 3, fromTo(0, 1, 2, 3, 4), take(2, 0), take(2, 7), fromTo(1, 1, 7, 3, 4)},
		{"take 1 2", 3, fromTo(0, 1, 2, 3, 4), take(2, 0), take(2, 0), fromTo(1, 1, 0, 3, 4)},
		{"take 0 0", 3, fromTo(1, 1, 2, 3, 4), take(0, 0), take(0, top), fromTo(2, top, 2, 3, 4)},
		{"take 3 any", 3, fromTo(0, 1, 2, 3, 4), take(impl.Any, 0), take(0, -top), fromTo(1, 1, 2, 3, -top)},
		{"take 3 any", 3, fromTo(0, 1, 2, 3, 4), take(impl.Any, 0), take(3, 5), fromTo(1, 1, 2, 3, 5)},
		{"print 2", 3, fromTo(0, 1, 2, 3, 4), show(3), show(3), out(fromTo(1, 1, 2, 3, 4), 3)},
		{"print 0", 3, out(fromTo(0, -1, 2, 3, 4), 5, 6), show(-1), show(-1), out(fromTo(1, -1, 2, 3, 4), 5, 6, -1)},
		{"print 0", 3, out(fromTo(0, 1, 2, 3, 4), many(59, 5)...), show(1), show(1), out(fromTo(1, 1, 2, 3, 4), append(many(59, 5), 1)...)},
		{"jump 2", 3, fromTo(0, 1, 2, 3, 4), local(), local(), fromTo(2, 1, 2, 3, 4)},
		{"jump 0", 3, fromTo(2, 1, 2, 3, 4), local(), local(), fromTo(0, 1, 2, 3, 4)},
		{"jump 1", 3, fromTo(1, 1, 2, 3, 4), local(), local(), fromTo(1, 1, 2, 3, 4)},
		{"zero 1 2", 3, fromTo(0, 1, 0, 3, 4), local(), local(), fromTo(2, 1, 0, 3, 4)},
		{"zero 1 2", 3, fromTo(0, 0, 2, 0, 0), local(), local(), fromTo(1, 0, 2, 0, 0)},
		{"zero 1 0", 3, fromTo(2, 1, 0, 3, 4), local(), local(), fromTo(0, 1, 0, 3, 4)},
		{"end", 3, out(fromTo(1, 1, 2, 3, 4), 6), local(), local(), code(out(fromTo(1, 1, 2, 3, 4), 6), impl.StEnd)},
		{"end", 1, fromTo(0, 1, 2, 3, 4), local(), local(), code(fromTo(0, 1, 2, 3, 4), impl.StEnd)},

		// A number beyond MaxNum: all else as it was, at the last place too.
		{"add 3 0 1", 3, fromTo(0, top, 1, 0, 4), local(), local(), code(fromTo(0, top, 1, 0, 4), impl.StFault)},
		{"add 3 0 1", 3, fromTo(0, -top, -1, 0, 4), local(), local(), code(fromTo(0, -top, -1, 0, 4), impl.StFault)},
		{"add 0 0 0", 3, out(fromTo(1, top, 1, 0, 4), 9), local(), local(), code(out(fromTo(1, top, 1, 0, 4), 9), impl.StFault)},
		{"sub 3 0 1", 3, fromTo(0, top, -1, 0, 4), local(), local(), code(fromTo(0, top, -1, 0, 4), impl.StFault)},
		{"sub 3 0 1", 3, fromTo(0, -top, 1, 0, 4), local(), local(), code(fromTo(0, -top, 1, 0, 4), impl.StFault)},
		{"mul 0 0 0", 3, fromTo(0, 31623, 1, 0, 4), local(), local(), code(fromTo(0, 31623, 1, 0, 4), impl.StFault)},
		{"mul 0 0 0", 3, fromTo(0, top, 1, 0, 4), local(), local(), code(fromTo(0, top, 1, 0, 4), impl.StFault)},
		{"mul 2 0 1", 3, fromTo(0, top, -top, 0, 4), local(), local(), code(fromTo(0, top, -top, 0, 4), impl.StFault)},
		{"add 3 0 1", 1, fromTo(0, top, 1, 0, 4), local(), local(), code(fromTo(0, top, 1, 0, 4), impl.StFault)},

		// An At that is no place any more: only At is as it was.
		{"set 2 5", 3, fromTo(2, 1, 2, 3, 4), local(), local(), code(fromTo(2, 1, 2, 5, 4), impl.StFault)},
		{"set 2 5", 1, fromTo(0, 1, 2, 3, 4), local(), local(), code(fromTo(0, 1, 2, 5, 4), impl.StFault)},
		{"less 0 1 2", 3, fromTo(2, 9, 2, 3, 4), local(), local(), code(fromTo(2, 1, 2, 3, 4), impl.StFault)},
		{"zero 1 0", 3, fromTo(2, 0, 2, 3, 4), local(), local(), code(fromTo(2, 0, 2, 3, 4), impl.StFault)},
		{"send 1 3", 3, fromTo(2, 1, 2, 3, 4), send(1, 4), send(1, 4), code(fromTo(2, 1, 2, 3, 4), impl.StFault)},
		{"take 1 1", 3, fromTo(2, 1, 2, 3, 4), take(1, 0), take(1, 8), code(fromTo(2, 1, 8, 3, 4), impl.StFault)},
		{"print 3", 3, fromTo(2, 1, 2, 3, 4), show(4), show(4), code(out(fromTo(2, 1, 2, 3, 4), 4), impl.StFault)},
		{"print 3", 3, out(fromTo(2, 1, 2, 3, 4), many(59, 5)...), show(4), show(4), code(out(fromTo(2, 1, 2, 3, 4), append(many(59, 5), 4)...), impl.StFault)},

		// MaxOut is printed already: all else as it was.
		{"print 3", 3, out(fromTo(0, 1, 2, 3, 4), many(60, 5)...), show(4), show(4), code(out(fromTo(0, 1, 2, 3, 4), many(60, 5)...), impl.StFault)},
		{"print 3", 3, out(fromTo(2, 1, 2, 3, 4), many(60, 5)...), show(4), show(4), code(out(fromTo(2, 1, 2, 3, 4), many(60, 5)...), impl.StFault)},
		{"set 0 8", 3, out(fromTo(0, 1, 2, 3, 4), many(60, 5)...), local(), local(), out(fromTo(1, 8, 2, 3, 4), many(60, 5)...)},
	}
}

func (c stepCase) list(t *testing.T) []impl.Ins {
	list := ends(c.places, 0)
	list[c.before.At] = program(t, c.line)[0]
	return list
}

func TestSteps(t *testing.T) {
	for _, c := range rightSteps() {
		list := c.list(t)
		if got := impl.Next(list, c.before); got != c.next {
			t.Errorf("%s of %+v: Next is %+v, not %+v", c.line, c.before, got, c.next)
		}
		got, ok := impl.Do(list, c.before, c.e)
		if !ok || !sameState(got, c.after) {
			t.Errorf("%s of %+v: Do is %+v, %v, not %+v", c.line, c.before, got, ok, c.after)
		}
		if !impl.StateOk(list, got) {
			t.Errorf("%s of %+v: behind it is not right: %+v", c.line, c.before, got)
		}
		// Behind an end or a fault nothing comes.
		if (impl.Next(list, got) == impl.Event{}) != (c.after.Code != impl.StRun) {
			t.Errorf("%s of %+v: Next behind it is %+v", c.line, c.before, impl.Next(list, got))
		}
	}
}

// someEvents are events of each kind and of none, with peers and numbers in and out of their ranges.
func someEvents() []impl.Event {
	list := []impl.Event{}
	for _, kind := range []int{math.MinInt, -1, 0, 1, 2, 3, 4, 5, 257, math.MaxInt} {
		for _, peer := range []int{math.MinInt, -1, 0, 1, 2, 3, 4, 8, 9, 10, math.MaxInt} {
			for _, v := range append(wild(), -4, 7) {
				list = append(list, impl.Event{Kind: kind, Peer: peer, V: v})
			}
		}
	}
	return list
}

// mayCome is which events Do lets be where next is Next.
func mayCome(next, e impl.Event) bool {
	switch {
	case next == impl.Event{}:
		return false
	case next.Kind != impl.EvTake:
		return e == next
	case e.Kind != impl.EvTake || e.V < -1000000000 || e.V > 1000000000:
		return false
	case next.Peer == 9:
		return e.Peer == 0 || e.Peer == 1 || e.Peer == 2 || e.Peer == 3
	}
	return e.Peer == next.Peer
}

func TestOnlyWhatComesNextIsDone(t *testing.T) {
	for _, c := range rightSteps() {
		list, done := c.list(t), 0
		for _, e := range append(someEvents(), c.next, c.e) {
			got, ok := impl.Do(list, c.before, e)
			if ok != mayCome(c.next, e) {
				t.Fatalf("%s of %+v: Do of %+v is %v", c.line, c.before, e, ok)
			}
			if !ok && !sameState(got, c.before) {
				t.Fatalf("%s of %+v: Do of %+v is false, and %+v", c.line, c.before, e, got)
			}
			if ok {
				done++
			}
		}
		if done == 0 {
			t.Errorf("%s: nothing was done", c.line)
		}
	}
}

func TestTakesFromEachPeer(t *testing.T) {
	list := program(t, "take 2 any", "end")
	s := fromTo(0, 1, 2, 3, 4)
	for peer := -1; peer <= 10; peer++ {
		for v, in := range map[int]bool{0: true, 5: true, impl.MaxNum: true, -impl.MaxNum: true, impl.MaxNum + 1: false, -impl.MaxNum - 1: false, math.MaxInt: false, math.MinInt: false} {
			got, ok := impl.Do(list, s, impl.Event{Kind: impl.EvTake, Peer: peer, V: v})
			want := s
			if in && peer >= 0 && peer < impl.MaxProcs {
				want = fromTo(1, 1, 2, v, 4)
			}
			if ok != (want.At == 1) || !sameState(got, want) {
				t.Errorf("peer %d, %d: %+v, %v", peer, v, got, ok)
			}
		}
	}
	for from := range impl.MaxProcs {
		list[0].N = from
		for peer := -1; peer <= 10; peer++ {
			if _, ok := impl.Do(list, s, impl.Event{Kind: impl.EvTake, Peer: peer, V: 5}); ok != (peer == from) {
				t.Error(from, peer)
			}
		}
	}
}

func TestNothingComesOfWhatIsNotRight(t *testing.T) {
	right := fromTo(0, 1, 2, 3, 4)
	list := program(t, "print 0", "send 3 1", "end")
	if impl.Next(list, right) != (impl.Event{Kind: impl.EvPrint, V: 1}) {
		t.Fatal("the right one")
	}
	states := []impl.State{
		{}, {At: 3, Regs: many(4, 1)}, {At: -1, Regs: many(4, 1)}, {At: math.MaxInt, Regs: many(4, 1)}, {At: math.MinInt, Regs: many(4, 1)},
		{Regs: many(3, 1)}, {Regs: many(5, 1)}, {Regs: []int{1, 2, 3, impl.MaxNum + 1}}, {Regs: []int{-impl.MaxNum - 1, 2, 3, 4}},
		{Regs: many(4, 1), Out: many(61, 1)}, {Regs: many(4, 1), Out: []int{impl.MaxNum + 1}}, {Regs: many(4, 1), Out: []int{0, math.MinInt}},
		{Regs: many(4, 1), Code: impl.StEnd}, {Regs: many(4, 1), Code: impl.StFault}, {Regs: many(4, 1), Code: 3}, {Regs: many(4, 1), Code: -1}, {Regs: many(4, 1), Code: math.MinInt},
	}
	for _, s := range states {
		holdStill(t, list, s)
	}
	lists := [][]impl.Ins{
		nil, {}, ends(31, 0), ends(100, 0), ends(1, 1), ends(3, 3), ends(3, -1),
		{{Op: impl.OpPrint, B: 1}, {Op: impl.OpEnd}}, {{Op: impl.OpPrint}, {Op: impl.OpEnd}, {Op: 12}}, {{Op: impl.OpPrint}, {Op: 0}}, {{Op: impl.OpPrint, A: 4}, {Op: impl.OpEnd}},
		{{Op: impl.OpPrint, A: math.MaxInt}}, {{Op: math.MaxInt}}, {{Op: math.MinInt}}, {{Op: impl.OpSet, R: -1}}, {{Op: impl.OpJump, N: math.MinInt}},
		{{Op: impl.OpPrint}, {Op: impl.OpSend, N: 4}}, {{Op: impl.OpSend, N: impl.Any}}, {{Op: impl.OpTake, N: 4}}, {{Op: impl.OpSet, N: impl.MaxNum + 1}},
	}
	for _, bad := range lists {
		holdStill(t, bad, right)
	}
	if impl.Next(ends(30, 29), right) != local() {
		t.Error("MaxIns places are right")
	}
}

// holdStill holds that nothing comes next of s, and that no event is done to it.
func holdStill(t *testing.T, list []impl.Ins, s impl.State) {
	t.Helper()
	if got := impl.Next(list, s); got != (impl.Event{}) {
		t.Errorf("Next(%+v, %+v) is %+v", list, s, got)
	}
	for _, e := range append(someEvents(), impl.Event{Kind: impl.EvPrint, V: 1}) {
		if got, ok := impl.Do(list, s, e); ok || !sameState(got, s) {
			t.Fatalf("Do(%+v, %+v, %+v) is %+v, %v", list, s, e, got, ok)
		}
	}
}

func TestEndedAndFaultyStatesStay(t *testing.T) {
	for _, c := range rightSteps() {
		for _, code := range []int{impl.StEnd, impl.StFault} {
			s := cloneState(c.before)
			s.Code = code
			if !impl.StateOk(c.list(t), s) {
				t.Fatal("it is right")
			}
			holdStill(t, c.list(t), s)
		}
	}
}

// wantDo is Do of an event that may come, told once more: what it does first, where it goes then.
func wantDo(list []impl.Ins, s impl.State, e impl.Event) impl.State {
	x, was := list[s.At], cloneState(s)
	was.Code = 2
	s = cloneState(s)
	to := s.At + 1
	a, b := s.Regs[x.A], s.Regs[x.B]
	switch x.Op {
	case 1:
		s.Regs[x.R] = x.N
	case 2:
		s.Regs[x.R] = a + b
	case 3:
		s.Regs[x.R] = a - b
	case 4:
		s.Regs[x.R] = a * b
	case 5:
		s.Regs[x.R] = 0
		if a < b {
			s.Regs[x.R] = 1
		}
	case 7:
		s.Regs[x.R] = e.V
	case 8:
		s.Out = append(s.Out, e.V)
	case 9:
		to = x.N
	case 10:
		if a == 0 {
			to = x.N
		}
	case 11:
		s.Code = 1
		return s
	}
	if len(s.Out) > 60 || s.Regs[x.R] > 1000000000 || s.Regs[x.R] < -1000000000 {
		return was
	}
	if to >= len(list) {
		s.Code = 2
		return s
	}
	s.At = to
	return s
}

// someState is one that is often right for list.
func someState(r *rand.Rand, list []impl.Ins) impl.State {
	num := func() int {
		pool := []int{0, 0, 1, -1, 2, 5, 31622, 31623, -40000, impl.MaxNum - 1, impl.MaxNum, -impl.MaxNum}
		if r.Intn(60) == 0 {
			pool = wild()
		}
		return pool[r.Intn(len(pool))]
	}
	s := impl.State{At: r.Intn(len(list) + 1)}
	if s.At == len(list) && r.Intn(8) > 0 {
		s.At--
	}
	for range 4 {
		s.Regs = append(s.Regs, num())
	}
	for range []int{0, 1, 2, 58, 59, 60, 60, 61}[r.Intn(8)] {
		s.Out = append(s.Out, r.Intn(5))
	}
	if r.Intn(10) == 0 {
		s.Code = r.Intn(4)
	}
	if r.Intn(30) == 0 {
		s.Regs = s.Regs[:3]
	}
	return s
}

func TestStepsByChance(t *testing.T) {
	r := rand.New(rand.NewSource(3))
	done, codes := 0, [3]int{}
	for range 60000 {
		list := someProgram(r)
		s := someState(r, list)
		if impl.StateOk(list, s) != wantStateOk(list, s) {
			t.Fatalf("StateOk(%+v, %+v)", list, s)
		}
		next := impl.Next(list, s)
		if (next != impl.Event{}) != (wantStateOk(list, s) && s.Code == 0 && impl.ProgOk(list, 4)) {
			t.Fatalf("Next(%+v, %+v) is %+v", list, s, next)
		}
		e := next
		if e.Kind == impl.EvTake {
			e.V = wild()[r.Intn(len(wild()))]
			e.Peer = r.Intn(5)
		}
		got, ok := impl.Do(list, s, e)
		if ok != mayCome(next, e) {
			t.Fatalf("Do(%+v, %+v, %+v) is %v", list, s, e, ok)
		}
		want := s
		if ok {
			want = wantDo(list, s, e)
			done++
			codes[want.Code]++
		}
		if !sameState(got, want) || ok && !impl.StateOk(list, got) {
			t.Fatalf("Do(%+v, %+v, %+v) is %+v, not %+v", list, s, e, got, want)
		}
	}
	if done < 10000 || codes[0] < 1000 || codes[1] < 100 || codes[2] < 1000 {
		t.Error("few were done:", done, codes)
	}
}

func TestOneThingOnlyWhereItTakesNothing(t *testing.T) {
	r := rand.New(rand.NewSource(4))
	events, alone := someEvents(), 0
	for range 1500 {
		list := someProgram(r)
		s := someState(r, list)
		next := impl.Next(list, s)
		can := 0
		for _, e := range append(events, next) {
			got, ok := impl.Do(list, s, e)
			if ok && !impl.StateOk(list, got) {
				t.Fatalf("Do(%+v, %+v, %+v) is %+v", list, s, e, got)
			}
			if ok && next.Kind != impl.EvTake {
				can++
				if e != next {
					t.Fatalf("%+v, %+v: %+v can come beside %+v", list, s, e, next)
				}
			}
		}
		if can > 0 {
			alone++
		}
	}
	if alone < 100 {
		t.Error("few:", alone)
	}
}

func TestARunToItsEnd(t *testing.T) {
	// Prints 3, 2, 1, and ends.
	list := program(t, "set 0 3", "set 1 1", "zero 0 6", "print 0", "sub 0 0 1", "jump 2", "end")
	s := impl.StateNew()
	steps := 0
	for impl.Next(list, s) != (impl.Event{}) && steps < 100 {
		s, _ = impl.Do(list, s, impl.Next(list, s))
		steps++
	}
	if want := (impl.State{At: 6, Regs: []int{0, 1, 0, 0}, Out: []int{3, 2, 1}, Code: impl.StEnd}); steps != 16 || !sameState(s, want) {
		t.Errorf("%+v in %d steps", s, steps)
	}
}

func TestTheLastPrint(t *testing.T) {
	list := program(t, "print 0", "jump 0")
	s := impl.StateNew()
	for i := range 2 * impl.MaxOut {
		var ok bool
		if s, ok = impl.Do(list, s, impl.Next(list, s)); !ok || s.Code != impl.StRun {
			t.Fatal(i, s, ok)
		}
	}
	s, ok := impl.Do(list, s, impl.Next(list, s))
	if !ok || !sameState(s, impl.State{Regs: many(4, 0), Out: many(impl.MaxOut, 0), Code: impl.StFault}) {
		t.Errorf("%+v, %v", s, ok)
	}
}

// roomy is s with room behind its lists, and a function that tells whether anything in them or behind them was written into.
func roomy(s impl.State) (impl.State, func() bool) {
	regs := append(slices.Clone(s.Regs), -71, -72, -73)
	out := append(slices.Clone(s.Out), -74, -75, -76)
	keptRegs, keptOut := slices.Clone(regs), slices.Clone(out)
	s.Regs, s.Out = regs[:len(s.Regs)], out[:len(s.Out)]
	return s, func() bool { return slices.Equal(regs, keptRegs) && slices.Equal(out, keptOut) }
}

// overwrite writes into all that a list has, and into the room behind it.
func overwrite(list []int) {
	list = list[:cap(list)]
	for i := range list {
		list[i] = -99
	}
}

func TestStatesAreNotWrittenIntoAndNotShared(t *testing.T) {
	odd := impl.State{At: -5, Regs: []int{1, 2}, Out: many(70, 3), Code: 8}
	for _, c := range rightSteps() {
		for _, from := range []impl.State{c.before, c.after, odd, {}} {
			for _, e := range []impl.Event{c.e, c.next, {}, {Kind: impl.EvTake, Peer: 1, V: math.MaxInt}} {
				s, untouched := roomy(from)
				list := append(c.list(t), impl.Ins{Op: -1, R: -2, A: -3, B: -4, N: -5})
				kept := slices.Clone(list)
				short := list[:len(list)-1]
				impl.StateOk(short, s)
				impl.Next(short, s)
				got, ok := impl.Do(short, s, e)
				again, okAgain := impl.Do(short, s, e)
				if ok != okAgain || !sameState(got, again) {
					t.Errorf("%s: twice is not once", c.line)
				}
				overwrite(got.Regs)
				if !untouched() || ok && !sameState(again, wantDo(short, s, e)) || !ok && !sameState(again, s) {
					t.Errorf("%s of %+v and %+v: registers are shared or written into", c.line, from, e)
				}
				overwrite(got.Out)
				if !untouched() || !slices.Equal(list, kept) || ok && !sameState(again, wantDo(short, s, e)) || !ok && !sameState(again, s) {
					t.Errorf("%s of %+v and %+v: what was printed is shared or written into", c.line, from, e)
				}
				overwrite(again.Regs)
				if want := s.Out; !ok && !slices.Equal(again.Out, want) || ok && !slices.Equal(again.Out, wantDo(short, s, e).Out) {
					t.Errorf("%s of %+v and %+v: the two lists share", c.line, from, e)
				}
			}
		}
	}
}
