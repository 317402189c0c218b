package tests

import (
	"math"
	"math/rand"
	"slices"
	"testing"

	"loop.example/g00196/impl"
)

func sameLists[T comparable](a, b [][]T) bool { return slices.EqualFunc(a, b, slices.Equal[[]T]) }

// sameSys has an empty list and nil alike.
func sameSys(a, b impl.Sys) bool {
	return sameLists(a.Progs, b.Progs) && slices.EqualFunc(a.States, b.States, sameState) && sameLists(a.Ways, b.Ways) && sameLists(a.Hist, b.Hist)
}

func isZeroSys(s impl.Sys) bool {
	return len(s.Progs) == 0 && len(s.States) == 0 && len(s.Ways) == 0 && len(s.Hist) == 0
}

func cloneLists[T any](lists [][]T) [][]T {
	out := make([][]T, len(lists))
	for i, list := range lists {
		out[i] = slices.Clone(list)
	}
	return out
}

func cloneSys(s impl.Sys) impl.Sys {
	states := make([]impl.State, len(s.States))
	for i, x := range s.States {
		states[i] = cloneState(x)
	}
	return impl.Sys{Progs: cloneLists(s.Progs), States: states, Ways: cloneLists(s.Ways), Hist: cloneLists(s.Hist)}
}

// wantNew is SysNew of programs that are right.
func wantNew(progs ...[]impl.Ins) impl.Sys {
	n := len(progs)
	s := impl.Sys{Progs: cloneLists(progs), Ways: make([][]impl.Item, n*n), Hist: make([][]impl.Event, n)}
	for range progs {
		s.States = append(s.States, fromTo(0, 0, 0, 0, 0))
	}
	return s
}

// play does the next event of p in s itself, where it can come: what is taken is the first of its way, a full way takes no more.
func play(s *impl.Sys, p, peer int) bool {
	n := len(s.Progs)
	e := wantNext(s.Progs[p], s.States[p])
	if e.Kind == 0 || len(s.Hist[p]) == 200 {
		return false
	}
	if e.Kind == 2 {
		way := &s.Ways[p*n+e.Peer]
		if len(*way) == 12 {
			return false
		}
		*way = append(slices.Clone(*way), impl.Item{V: e.V})
	}
	if e.Kind == 3 {
		if e.Peer == 9 {
			e.Peer = peer
		}
		way := &s.Ways[e.Peer*n+p]
		if len(*way) == 0 || (*way)[0].Mark {
			return false
		}
		e.V = (*way)[0].V
		*way = slices.Clone((*way)[1:])
	}
	s.Hist[p] = append(slices.Clone(s.Hist[p]), e)
	s.States[p] = wantDo(s.Progs[p], s.States[p], e)
	return true
}

// played is the new system of programs, in which each of list had an event (what is taken from Any is taken from the first who has something).
func played(t *testing.T, progs [][]impl.Ins, list ...int) impl.Sys {
	t.Helper()
	s := wantNew(progs...)
	for i, p := range list {
		peer := 0
		for peer < len(progs) && !play(&s, p, peer) {
			peer++
		}
		if peer == len(progs) {
			t.Fatalf("%d can't come at %d of %v", p, i, list)
		}
	}
	return s
}

// inRow tells, by how far down each event must stand, whether all can stand in a row: in a circle they go down for ever.
func inRow(s impl.Sys) bool {
	all := 0
	deep := make([][]int, len(s.Hist))
	for p, events := range s.Hist {
		all += len(events)
		deep[p] = make([]int, len(events))
	}
	for down := true; down; {
		down = false
		for p, events := range s.Hist {
			took := map[int]int{}
			for i, e := range events {
				least := 0
				if i > 0 {
					least = deep[p][i-1] + 1
				}
				if e.Kind == 3 {
					sends := 0
					for j, x := range s.Hist[e.Peer] {
						if x.Kind != 2 || x.Peer != p {
							continue
						}
						if sends == took[e.Peer] {
							least = max(least, deep[e.Peer][j]+1)
						}
						sends++
					}
					took[e.Peer]++
				}
				if least > all {
					return false
				}
				if least > deep[p][i] {
					deep[p][i], down = least, true
				}
			}
		}
	}
	return true
}

// wantSysOk is SysOk, told once more.
func wantSysOk(s impl.Sys) bool {
	n := len(s.Progs)
	if n == 0 || n > 4 || len(s.States) != n || len(s.Hist) != n || len(s.Ways) != n*n {
		return false
	}
	for p, list := range s.Progs {
		for _, x := range list {
			if !wantOk(x, len(list), n) {
				return false
			}
		}
		told, ok := wantReplay(list, s.Hist[p])
		if !ok || !sameState(told, s.States[p]) {
			return false
		}
		for _, e := range s.Hist[p] {
			if e.Peer < 0 || e.Peer >= n {
				return false
			}
		}
	}
	for a := range n {
		for b := range n {
			moved := []int{}
			for _, e := range s.Hist[b] {
				if e.Kind == 3 && e.Peer == a {
					moved = append(moved, e.V)
				}
			}
			for _, x := range s.Ways[n*a+b] {
				if x.Mark && x.V != 0 || x.V > 1000000000 || x.V < -1000000000 {
					return false
				}
				if !x.Mark {
					moved = append(moved, x.V)
				}
			}
			sends := []int{}
			for _, e := range s.Hist[a] {
				if e.Kind == 2 && e.Peer == b {
					sends = append(sends, e.V)
				}
			}
			if len(s.Ways[n*a+b]) > 12 || !slices.Equal(moved, sends) {
				return false
			}
		}
	}
	return inRow(s)
}

// holdSys holds SysOk of s against wantSysOk and against what is said of it.
func holdSys(t *testing.T, what string, s impl.Sys, want bool) {
	t.Helper()
	if told := wantSysOk(s); told != want {
		t.Fatalf("%s: told once more it is %v: %+v", what, told, s)
	}
	if got := impl.SysOk(s); got != want {
		t.Errorf("%s: SysOk(%+v) is %v", what, s, got)
	}
}

// but is s with a change to a copy of it.
func but(s impl.Sys, change func(s *impl.Sys)) impl.Sys {
	s = cloneSys(s)
	change(&s)
	return s
}

// pair is two that talk: the first sends 5, 6 and 7 and prints what comes back, the second sends back what it takes first.
func pair(t *testing.T) [][]impl.Ins {
	return [][]impl.Ins{
		program(t, "set 0 5", "send 1 0", "set 0 6", "send 1 0", "set 0 7", "send 1 0", "take 1 1", "print 1", "end"),
		program(t, "take 0 any", "send 0 0", "take 2 0", "end"),
	}
}

// underWay is pair with 7 on the way there and 5 on the way back.
func underWay(t *testing.T) impl.Sys {
	return played(t, pair(t), 0, 0, 0, 0, 1, 1, 1, 0, 0)
}

func TestMostOnAWayIsTwelve(t *testing.T) {
	if impl.MaxWay != 12 {
		t.Error(impl.MaxWay)
	}
}

func TestSystemsThatAreRight(t *testing.T) {
	s := underWay(t)
	if !slices.Equal(s.Ways[1], []impl.Item{{V: 7}}) || !slices.Equal(s.Ways[2], []impl.Item{{V: 5}}) {
		t.Fatalf("%+v", s)
	}
	holdSys(t, "under way", s, true)
	holdSys(t, "its new one", wantNew(pair(t)...), true)
	holdSys(t, "at its end", played(t, pair(t), 0, 0, 0, 0, 1, 1, 1, 0, 0, 0, 0, 0, 1), true)
	holdSys(t, "gone wrong", played(t, [][]impl.Ins{program(t, "set 0 9"), program(t, "end")}, 0, 1), true)
}

func TestHowManyProcesses(t *testing.T) {
	holdSys(t, "nothing", impl.Sys{}, false)
	holdSys(t, "nobody", wantNew(), false)
	for n := 1; n <= 9; n++ {
		holdSys(t, "as many ends", wantNew(slices.Repeat([][]impl.Ins{program(t, "end")}, n)...), n <= 4)
	}
}

func TestListsTooShortOrTooLong(t *testing.T) {
	for n := 1; n <= 4; n++ {
		s := wantNew(slices.Repeat([][]impl.Ins{program(t, "set 0 1", "end")}, n)...)
		holdSys(t, "as it is", s, true)
		for to := range 21 {
			holdSys(t, "states", but(s, func(s *impl.Sys) { s.States = slices.Repeat(s.States[:1], to) }), to == n)
			holdSys(t, "events", but(s, func(s *impl.Sys) { s.Hist = make([][]impl.Event, to) }), to == n)
			holdSys(t, "ways", but(s, func(s *impl.Sys) { s.Ways = make([][]impl.Item, to) }), to == n*n)
			holdSys(t, "programs", but(s, func(s *impl.Sys) { s.Progs = slices.Repeat(s.Progs[:1], to) }), to == n)
			if to != n {
				holdSys(t, "all but the ways", but(s, func(s *impl.Sys) {
					*s = impl.Sys{Progs: slices.Repeat(s.Progs[:1], to), States: slices.Repeat(s.States[:1], to), Hist: make([][]impl.Event, to), Ways: s.Ways}
				}), false)
			}
		}
	}
}

func TestProgramsOfASystem(t *testing.T) {
	for n := 1; n <= 4; n++ {
		right := slices.Repeat([][]impl.Ins{ends(30, 0)}, n)
		holdSys(t, "MaxIns places", wantNew(right...), true)
		for p := range n {
			for _, list := range badPrograms() {
				progs := slices.Clone(right)
				progs[p] = list
				holdSys(t, "no program", wantNew(progs...), false)
			}
			// Whom a program names must be there, not only be one of MaxProcs.
			for to := range 4 {
				progs := slices.Clone(right)
				progs[p] = []impl.Ins{{Op: impl.OpEnd}, {Op: impl.OpSend, N: to}}
				holdSys(t, "a send", wantNew(progs...), to < n)
				progs[p] = []impl.Ins{{Op: impl.OpEnd}, {Op: impl.OpTake, N: to}}
				holdSys(t, "a take", wantNew(progs...), to < n)
			}
			progs := slices.Clone(right)
			progs[p] = program(t, "take 0 any")
			holdSys(t, "a take from any", wantNew(progs...), true)
		}
	}
}

func TestStatesAreWhatHappened(t *testing.T) {
	s := played(t, pair(t), 0, 0, 0, 0, 1, 1, 1, 0, 0, 0, 0)
	holdSys(t, "as it is", s, true)
	for p := range 2 {
		change := func(what string, do func(x *impl.State)) {
			holdSys(t, what, but(s, func(s *impl.Sys) { do(&s.States[p]) }), false)
		}
		for _, by := range []int{-1, 1, math.MinInt, math.MaxInt} {
			change("at", func(x *impl.State) { x.At += by })
			change("code", func(x *impl.State) { x.Code += by })
			for i := range 4 {
				change("a register", func(x *impl.State) { x.Regs[i] += by })
			}
		}
		change("another number printed", func(x *impl.State) { x.Out = append(x.Out, 5) })
		change("nothing printed, or something else", func(x *impl.State) { x.Out = []int{6} })
		change("three registers", func(x *impl.State) { x.Regs = x.Regs[:3] })
		change("five registers", func(x *impl.State) { x.Regs = append(x.Regs, 0) })
		change("nothing", func(x *impl.State) { *x = impl.State{} })
		change("the beginning", func(x *impl.State) { *x = impl.StateNew() })
	}
	holdSys(t, "the other's", but(s, func(s *impl.Sys) { s.States[0], s.States[1] = s.States[1], s.States[0] }), false)
	holdSys(t, "what was printed is not there", but(s, func(s *impl.Sys) { s.States[0].Out = nil }), false)
}

func TestEventsThatCantBe(t *testing.T) {
	s := underWay(t)
	for p := range 2 {
		for i := range s.Hist[p] {
			holdSys(t, "no event", but(s, func(s *impl.Sys) { s.Hist[p][i] = impl.Event{} }), false)
			holdSys(t, "one left out", but(s, func(s *impl.Sys) { s.Hist[p] = slices.Delete(s.Hist[p], i, i+1) }), false)
			holdSys(t, "one twice", but(s, func(s *impl.Sys) { s.Hist[p] = slices.Insert(s.Hist[p], i, s.Hist[p][i]) }), false)
		}
		for _, e := range someEvents() {
			holdSys(t, "one more", but(s, func(s *impl.Sys) { s.Hist[p] = append(s.Hist[p], e) }), false)
		}
	}
}

func TestEventsOfASystemMetAndPassed(t *testing.T) {
	for n, want := range map[int]bool{199: true, 200: true, 201: false, 400: false} {
		s := wantNew(program(t, "jump 0"), program(t, "jump 0"))
		for p := range 2 {
			other := but(s, func(s *impl.Sys) { s.Hist[p] = slices.Repeat([]impl.Event{local()}, n) })
			holdSys(t, "many events", other, want)
		}
	}
	// All of them had MaxEvents, and each is half of the talk of the other.
	talk := [][]impl.Ins{program(t, "send 1 0", "take 0 1", "jump 0"), program(t, "take 0 0", "send 0 0", "jump 0")}
	s := wantNew(talk...)
	for range 67 {
		for _, p := range []int{0, 1, 1, 1, 0, 0} {
			play(&s, p, 0)
		}
	}
	if len(s.Hist[0]) != 200 || len(s.Hist[1]) != 200 {
		t.Fatal(len(s.Hist[0]), len(s.Hist[1]))
	}
	holdSys(t, "a long talk", s, true)
}

func TestPeersAreThere(t *testing.T) {
	// A take from Any is right of one process alone from each of MaxProcs; of a system only from those that there are.
	for n := 1; n <= 4; n++ {
		list := program(t, "take 0 any", "end")
		for peer := -1; peer <= 9; peer++ {
			s := wantNew(slices.Repeat([][]impl.Ins{list}, n)...)
			s.Hist[n-1] = []impl.Event{{Kind: impl.EvTake, Peer: peer, V: 6}}
			s.States[n-1] = fromTo(1, 6, 0, 0, 0)
			if _, ok := impl.Replay(list, s.Hist[n-1]); ok != (peer >= 0 && peer < 4) {
				t.Fatal(peer, ok)
			}
			holdSys(t, "never sent", s, false)
		}
	}
	s := played(t, [][]impl.Ins{program(t, "set 0 6", "send 1 0", "end"), program(t, "take 0 any", "end")}, 0, 0, 1)
	for peer := -1; peer <= 9; peer++ {
		holdSys(t, "taken from another", but(s, func(s *impl.Sys) { s.Hist[1][0].Peer = peer }), peer == 0)
	}
}

// sends is one process that sent n times to itself, with marks behind that on the way.
func sends(t *testing.T, n, marks int) impl.Sys {
	s := wantNew(program(t, "send 0 0", "jump 0"))
	for range n {
		s.Hist[0] = append(s.Hist[0], impl.Event{Kind: impl.EvSend}, local())
		s.Ways[0] = append(s.Ways[0], impl.Item{})
	}
	s.Ways[0] = append(s.Ways[0], slices.Repeat([]impl.Item{{Mark: true}}, marks)...)
	return s
}

func TestWaysMetAndPassed(t *testing.T) {
	for n := range 16 {
		for marks := range 16 {
			holdSys(t, "so many", sends(t, n, marks), n+marks <= 12)
		}
	}
	holdSys(t, "very many marks", sends(t, 0, 100000), false)
	// Each way is asked, not only the first.
	for n := 1; n <= 4; n++ {
		s := wantNew(slices.Repeat([][]impl.Ins{program(t, "end")}, n)...)
		for i := range s.Ways {
			for _, marks := range []int{1, 11, 12, 13, 14} {
				full := slices.Repeat([]impl.Item{{Mark: true}}, marks)
				holdSys(t, "marks", but(s, func(s *impl.Sys) { s.Ways[i] = full }), marks <= 12)
			}
			holdSys(t, "a number", but(s, func(s *impl.Sys) { s.Ways[i] = []impl.Item{{}} }), false)
		}
		all := but(s, func(s *impl.Sys) {
			for i := range s.Ways {
				s.Ways[i] = slices.Repeat([]impl.Item{{Mark: true}}, 12)
			}
		})
		holdSys(t, "marks everywhere", all, true)
	}
}

func TestNumbersOnAWayMetAndPassed(t *testing.T) {
	for _, v := range wild() {
		s := wantNew([]impl.Ins{{Op: impl.OpSet, N: v}, {Op: impl.OpSend}, {Op: impl.OpEnd}})
		s.Hist[0] = []impl.Event{local(), {Kind: impl.EvSend, V: v}}
		s.States[0] = fromTo(2, v, 0, 0, 0)
		s.Ways[0] = []impl.Item{{V: v}}
		holdSys(t, "a number that was sent", s, v >= -impl.MaxNum && v <= impl.MaxNum)

		other := played(t, [][]impl.Ins{program(t, "set 0 12345", "send 0 0", "end")}, 0, 0)
		other.Ways[0][0].V = v
		holdSys(t, "a number that was not sent", other, false)

		other.Ways[0] = []impl.Item{{V: 12345}, {Mark: true, V: v}}
		holdSys(t, "what a mark has", other, v == 0)
		other.Ways[0] = []impl.Item{{Mark: true, V: v}, {V: 12345}}
		holdSys(t, "what a mark has ahead of a number", other, v == 0)
		other.Ways[0] = []impl.Item{{Mark: true}, {Mark: true, V: v}, {V: 12345}, {Mark: true}}
		holdSys(t, "what a mark has among others", other, v == 0)
	}
	// A mark is no number, not even one that was sent.
	s := played(t, [][]impl.Ins{program(t, "set 0 5", "send 0 0", "end")}, 0, 0)
	holdSys(t, "a number as a mark", but(s, func(s *impl.Sys) { s.Ways[0][0].Mark = true }), false)
	holdSys(t, "0 as a mark", but(sends(t, 3, 0), func(s *impl.Sys) { s.Ways[0][1].Mark = true }), false)
	holdSys(t, "a mark as 0", but(sends(t, 3, 1), func(s *impl.Sys) { s.Ways[0][3].Mark = false }), false)
}

func TestMarksAmongNumbers(t *testing.T) {
	// Of 5, 6, 7 on the way, some taken, with marks at each choice of places.
	progs := [][]impl.Ins{program(t, "set 0 5", "send 1 0", "set 0 6", "send 1 0", "set 0 7", "send 1 0"), program(t, "take 0 any", "jump 0")}
	for took, s := range []impl.Sys{
		played(t, progs, 0, 0, 0, 0, 0, 0),
		played(t, progs, 0, 0, 1, 0, 0, 0, 0),
		played(t, progs, 0, 0, 0, 0, 0, 0, 1, 1, 1),
		played(t, progs, 0, 0, 0, 0, 0, 0, 1, 1, 1, 1, 1),
	} {
		if nums := impl.Numbers(s.Ways[1]); !slices.Equal(nums, []int{5, 6, 7}[took:]) {
			t.Fatal(took, nums)
		}
		for choice := range 81 {
			way := []impl.Item{}
			for i := 0; i <= len(s.Ways[1]); i++ {
				for range choice % 3 {
					way = append(way, impl.Item{Mark: true})
				}
				choice /= 3
				if i < len(s.Ways[1]) {
					way = append(way, s.Ways[1][i])
				}
			}
			holdSys(t, "marks", but(s, func(s *impl.Sys) { s.Ways[1] = way }), true)
			for i, x := range way {
				if x.Mark {
					continue
				}
				holdSys(t, "marks and one less", but(s, func(s *impl.Sys) { s.Ways[1] = slices.Delete(slices.Clone(way), i, i+1) }), false)
				holdSys(t, "marks and one more", but(s, func(s *impl.Sys) { s.Ways[1] = slices.Insert(slices.Clone(way), i, x) }), false)
				holdSys(t, "marks and another", but(s, func(s *impl.Sys) { s.Ways[1] = slices.Clone(way); s.Ways[1][i].V++ }), false)
			}
		}
	}
}

func TestWhatIsOnAWayWasSent(t *testing.T) {
	s := underWay(t)
	way := func(i int, items ...impl.Item) impl.Sys { return but(s, func(s *impl.Sys) { s.Ways[i] = items }) }
	holdSys(t, "as it is", way(1, impl.Item{V: 7}), true)
	holdSys(t, "fewer than sent", way(1), false)
	holdSys(t, "fewer than sent, and a mark", way(1, impl.Item{Mark: true}), false)
	holdSys(t, "more than sent", way(1, impl.Item{V: 7}, impl.Item{V: 7}), false)
	holdSys(t, "never sent", way(1, impl.Item{V: 8}), false)
	holdSys(t, "taken already", way(1, impl.Item{V: 6}, impl.Item{V: 7}), false)
	holdSys(t, "all that was sent", way(1, impl.Item{V: 5}, impl.Item{V: 6}, impl.Item{V: 7}), false)
	holdSys(t, "to oneself", way(0, impl.Item{V: 7}), false)
	holdSys(t, "to the other oneself", way(3, impl.Item{V: 5}), false)
	holdSys(t, "back fewer", way(2), false)
	holdSys(t, "there and back changed", but(s, func(s *impl.Sys) { s.Ways[1], s.Ways[2] = s.Ways[2], s.Ways[1] }), false)

	full := played(t, pair(t), 0, 0, 0, 0, 0, 0)
	for _, order := range [][]int{{5, 6, 7}, {5, 7, 6}, {6, 5, 7}, {6, 7, 5}, {7, 5, 6}, {7, 6, 5}} {
		items := []impl.Item{}
		for _, v := range order {
			items = append(items, impl.Item{V: v}, impl.Item{Mark: true})
		}
		holdSys(t, "in some order", but(full, func(s *impl.Sys) { s.Ways[1] = items }), slices.IsSorted(order))
	}
}

func TestWhatIsTakenWasSent(t *testing.T) {
	// The second took x and y, of the 5 and 6 that the first sent.
	progs := [][]impl.Ins{program(t, "set 0 5", "send 1 0", "set 0 6", "send 1 0", "end"), program(t, "take 0 0", "take 1 any", "end")}
	whole := played(t, progs, 0, 0, 0, 0, 1, 1)
	holdSys(t, "as it is", whole, true)
	for x := 4; x <= 7; x++ {
		for y := 4; y <= 7; y++ {
			for from := range 2 {
				s := but(whole, func(s *impl.Sys) {
					s.Hist[1] = []impl.Event{{Kind: impl.EvTake, Peer: 0, V: x}, {Kind: impl.EvTake, Peer: from, V: y}}
					s.States[1] = fromTo(2, x, y, 0, 0)
				})
				holdSys(t, "taken", s, x == 5 && y == 6 && from == 0)
				// The other one may be on the way still, if it was sent last.
				one := but(s, func(s *impl.Sys) {
					s.Hist[1], s.States[1] = s.Hist[1][:1], fromTo(1, x, 0, 0, 0)
					s.Ways[1] = []impl.Item{{V: y}}
				})
				holdSys(t, "taken, and on the way", one, x == 5 && y == 6)
			}
		}
	}
	// More is taken than was sent: 5, and 6 that the first has not sent yet.
	early := but(whole, func(s *impl.Sys) { s.Hist[0], s.States[0] = s.Hist[0][:3], fromTo(3, 6, 0, 0, 0) })
	holdSys(t, "taken ahead of the send", early, false)
}

func TestTakenByWhoSentIt(t *testing.T) {
	progs := [][]impl.Ins{program(t, "set 0 5", "send 0 0", "take 1 0", "send 0 1", "take 2 any", "end"), program(t, "end")}
	for n := range 7 {
		holdSys(t, "to oneself", played(t, progs, make([]int, n)...), true)
	}
	s := played(t, progs, 0, 0, 0)
	holdSys(t, "on its way still", but(s, func(s *impl.Sys) { s.Ways[0] = []impl.Item{{V: 5}} }), false)
	// What one sends to itself can't be taken ahead of that, even where it is the number that comes.
	turned := [][]impl.Ins{program(t, "take 0 0", "send 0 0", "end")}
	ahead := wantNew(turned...)
	ahead.Hist[0] = []impl.Event{{Kind: impl.EvTake, V: 4}, {Kind: impl.EvSend, V: 4}}
	ahead.States[0] = fromTo(2, 4, 0, 0, 0)
	holdSys(t, "taken ahead of one's own send", ahead, false)
	for _, v := range []int{0, 4} {
		later := wantNew(program(t, "set 1 4", "send 0 1", "take 0 0", "take 2 0", "send 0 0", "end"))
		later.Hist[0] = []impl.Event{local(), {Kind: impl.EvSend, V: 4}, {Kind: impl.EvTake, V: 4}, {Kind: impl.EvTake, V: 4}, {Kind: impl.EvSend, V: 4}}
		later.States[0] = fromTo(5, 4, 4, 4, 0)
		later.Hist[0][3].V = v
		later.States[0].Regs[2] = v
		holdSys(t, "taken ahead of the second send", later, false)
	}
}

// ring is n processes that each send on to the next what comes from the one ahead, some rounds long; then the first few send and take, all others take and send.
func ring(n, rounds, few int) impl.Sys {
	progs := [][]impl.Ins{}
	for p := range n {
		send, take := impl.Ins{Op: impl.OpSend, N: (p + 1) % n}, impl.Ins{Op: impl.OpTake, N: (p + n - 1) % n}
		list := []impl.Ins{{Op: impl.OpSet, R: 1, N: rounds}, {Op: impl.OpSet, R: 2, N: 1},
			send, take, {Op: impl.OpSub, R: 1, A: 1, B: 2}, {Op: impl.OpZero, A: 1, N: 7}, {Op: impl.OpJump, N: 2}, take, send, {Op: impl.OpEnd}}
		if p < few {
			list[7], list[8] = send, take
		}
		progs = append(progs, list)
	}
	s := wantNew(progs...)
	for range 1 + 5*rounds {
		for p := range n {
			play(&s, p, 0)
		}
	}
	return s
}

func TestEventsInACircle(t *testing.T) {
	for n := 1; n <= 4; n++ {
		for _, v := range []int{0, 4, impl.MaxNum, -impl.MaxNum} {
			progs := [][]impl.Ins{}
			for p := range n {
				progs = append(progs, []impl.Ins{{Op: impl.OpTake, N: impl.Any}, {Op: impl.OpSend, N: (p + 1) % n}, {Op: impl.OpEnd}})
			}
			s := wantNew(progs...)
			for p := range n {
				s.Hist[p] = []impl.Event{{Kind: impl.EvTake, Peer: (p + n - 1) % n, V: v}, {Kind: impl.EvSend, Peer: (p + 1) % n, V: v}}
				s.States[p] = fromTo(2, v, 0, 0, 0)
			}
			// Each of them was sent what it took, but all of them took it first.
			holdSys(t, "a circle", s, false)
			// One that sends first breaks it.
			s.Progs[0][0], s.Progs[0][1] = s.Progs[0][1], s.Progs[0][0]
			s.Hist[0][0], s.Hist[0][1] = s.Hist[0][1], s.Hist[0][0]
			holdSys(t, "no circle any more", s, v == 0)
		}
	}
}

func TestACircleBehindMuchThatIsRight(t *testing.T) {
	for n := 1; n <= 4; n++ {
		for _, rounds := range []int{1, 2, 30} {
			for few := range n + 1 {
				s := ring(n, rounds, few)
				for p := range n {
					if len(s.Hist[p]) != 1+5*rounds || s.States[p].At != 7 {
						t.Fatalf("it has not come to its last round: %+v", s)
					}
				}
				holdSys(t, "ahead of the last round", s, true)
				for p := range n {
					send, take := impl.Event{Kind: impl.EvSend, Peer: (p + 1) % n}, impl.Event{Kind: impl.EvTake, Peer: (p + n - 1) % n}
					if p >= few {
						send, take = take, send
					}
					s.Hist[p] = append(s.Hist[p], send, take)
					s.States[p].At = 9
				}
				holdSys(t, "behind it", s, few > 0)
			}
		}
	}
}

func TestACircleOfSomeOnly(t *testing.T) {
	// 1 and 3 take from each other first; 0 and 2 do what is right, with each other and with them.
	progs := [][]impl.Ins{
		program(t, "send 1 0", "send 2 0", "take 0 2", "end"),
		program(t, "take 0 0", "take 1 3", "send 3 1", "end"),
		program(t, "take 0 0", "send 0 0", "end"),
		program(t, "take 1 1", "send 1 1", "end"),
	}
	s := played(t, progs, 0, 0, 1, 2, 2, 0, 2)
	holdSys(t, "ahead of the circle", s, true)
	s.Hist[1] = append(s.Hist[1], impl.Event{Kind: impl.EvTake, Peer: 3, V: 8}, impl.Event{Kind: impl.EvSend, Peer: 3, V: 8})
	s.States[1] = fromTo(3, 0, 8, 0, 0)
	s.Hist[3] = append(s.Hist[3], impl.Event{Kind: impl.EvTake, Peer: 1, V: 8}, impl.Event{Kind: impl.EvSend, Peer: 1, V: 8})
	s.States[3] = fromTo(2, 0, 8, 0, 0)
	holdSys(t, "the circle", s, false)
}

func TestTakesThatCrossAreNoCircle(t *testing.T) {
	// Each takes what the other sent ahead of its own take.
	list := func(peer string) []impl.Ins {
		return program(t, "set 0 5", "send "+peer+" 0", "take 1 "+peer, "send "+peer+" 1", "take 2 "+peer, "end")
	}
	progs := [][]impl.Ins{list("1"), list("0")}
	holdSys(t, "crossed", played(t, progs, 0, 0, 1, 1, 0, 1, 0, 1, 0, 1), true)
	holdSys(t, "one behind the other", played(t, progs, 0, 0, 1, 1, 1, 1, 0, 0, 0, 0, 1, 1), true)
}

// someTalk is one of n programs that talk much.
func someTalk(r *rand.Rand, n int) []impl.Ins {
	list := []impl.Ins{{Op: impl.OpSet, R: r.Intn(4), N: []int{0, 1, 2, 5, -7, impl.MaxNum, -impl.MaxNum}[r.Intn(7)]}}
	for range r.Intn(7) + 1 {
		x := impl.Ins{Op: impl.OpSend, A: r.Intn(4), N: r.Intn(n)}
		switch r.Intn(8) {
		case 0, 1, 2:
			x = impl.Ins{Op: impl.OpTake, R: r.Intn(4), N: r.Intn(n)}
			if r.Intn(2) == 0 {
				x.N = impl.Any
			}
		case 3:
			x = impl.Ins{Op: impl.OpLess, R: r.Intn(4), A: r.Intn(4), B: r.Intn(4)}
		case 4:
			x = impl.Ins{Op: impl.OpAdd, R: r.Intn(4), A: r.Intn(4), B: r.Intn(4)}
		case 5:
			x = impl.Ins{Op: impl.OpPrint, A: r.Intn(4)}
		}
		list = append(list, x)
	}
	if r.Intn(5) == 0 {
		return append(list, impl.Ins{Op: impl.OpEnd})
	}
	return append(list, impl.Ins{Op: impl.OpJump, N: r.Intn(len(list))})
}

// someSys is a system that is right, of programs that talk much, some steps from its beginning, with marks on its ways.
func someSys(r *rand.Rand, steps int) impl.Sys {
	n := r.Intn(4) + 1
	progs := [][]impl.Ins{}
	for range n {
		progs = append(progs, someTalk(r, n))
	}
	s := wantNew(progs...)
	marks := r.Intn(3) * 4
	for range steps {
		play(&s, r.Intn(n), r.Intn(n))
		way := &s.Ways[r.Intn(n*n)]
		if r.Intn(100) < marks && len(*way) < 12 {
			*way = append(slices.Clone(*way), impl.Item{Mark: true})
		}
		if len(*way) > 0 && (*way)[0].Mark && r.Intn(2) == 0 {
			*way = slices.Clone((*way)[1:])
		}
	}
	return s
}

func TestWhatWasPlayedIsRight(t *testing.T) {
	r := rand.New(rand.NewSource(10))
	onWays, taken, marks := 0, 0, 0
	for range 3000 {
		s := someSys(r, r.Intn(200))
		holdSys(t, "played", s, true)
		n := len(s.Progs)
		for a := range n {
			for b := range n {
				way := impl.WayOf(s, a, b)
				got, on := impl.Values(s.Hist[b], impl.EvTake, a), impl.Numbers(way)
				if !slices.Equal(slices.Concat(got, on), impl.Values(s.Hist[a], impl.EvSend, b)) {
					t.Fatalf("from %d to %d: %+v", a, b, s)
				}
				onWays, taken, marks = onWays+len(on), taken+len(got), marks+len(way)-len(on)
			}
		}
	}
	if onWays < 3000 || taken < 3000 || marks < 1000 {
		t.Error("few:", onWays, taken, marks)
	}
}

// someTurn changes one thing of a system, which often leaves it wrong.
func someTurn(r *rand.Rand, s *impl.Sys) {
	n := len(s.Progs)
	p, i := r.Intn(n), r.Intn(n*n)
	nums := []int{0, 1, 2, 5, -7, impl.MaxNum, -impl.MaxNum, impl.MaxNum + 1}
	hist, way := s.Hist[p], s.Ways[i]
	switch r.Intn(9) {
	case 0:
		s.Ways[i] = slices.Insert(way, r.Intn(len(way)+1), impl.Item{Mark: true})
	case 1:
		s.Ways[i] = slices.Insert(way, r.Intn(len(way)+1), impl.Item{V: nums[r.Intn(8)]})
	case 2:
		if len(way) > 0 {
			at := r.Intn(len(way))
			s.Ways[i] = slices.Delete(way, at, at+1)
		}
	case 3:
		if len(way) > 1 {
			at := r.Intn(len(way) - 1)
			way[at], way[at+1] = way[at+1], way[at]
		}
	case 4:
		if len(way) > 0 {
			way[r.Intn(len(way))].V = nums[r.Intn(8)]
		}
	case 5:
		s.Hist[p] = hist[:r.Intn(len(hist)+1)]
		s.States[p], _ = wantReplay(s.Progs[p], s.Hist[p])
	case 6:
		if len(hist) > 0 {
			hist[r.Intn(len(hist))].Peer = r.Intn(5)
		}
	case 7:
		s.States[p].Regs[r.Intn(4)] = nums[r.Intn(8)]
	case 8:
		e := wantNext(s.Progs[p], s.States[p])
		if e.Kind == 3 {
			e.V = nums[r.Intn(7)]
			e.Peer = r.Intn(n)
		}
		s.Hist[p] = append(hist, e)
		s.States[p], _ = wantReplay(s.Progs[p], s.Hist[p])
	}
}

func TestSystemsByChance(t *testing.T) {
	r := rand.New(rand.NewSource(11))
	counts := [2]int{}
	for range 12000 {
		s := someSys(r, r.Intn(40))
		someTurn(r, &s)
		if want := wantSysOk(s); impl.SysOk(s) != want {
			t.Fatalf("SysOk(%+v) is not %v", s, want)
		} else if want {
			counts[1]++
		} else {
			counts[0]++
		}
	}
	if counts[0] < 2000 || counts[1] < 2000 {
		t.Error("few:", counts)
	}
}

// TestRowsByChance has each take and each send of what it took in any order, so that what decides is the row alone.
func TestRowsByChance(t *testing.T) {
	r := rand.New(rand.NewSource(12))
	counts := [2]int{}
	for range 6000 {
		n := r.Intn(4) + 1
		s := wantNew(make([][]impl.Ins, n)...)
		for range r.Intn(10) + 1 {
			a, b := r.Intn(n), r.Intn(n)
			putIn(r, &s, a, impl.Event{Kind: impl.EvSend, Peer: b})
			if r.Intn(4) > 0 {
				putIn(r, &s, b, impl.Event{Kind: impl.EvTake, Peer: a})
			} else {
				s.Ways[a*n+b] = append(s.Ways[a*n+b], impl.Item{})
			}
		}
		for p, events := range s.Hist {
			for _, e := range events {
				s.Progs[p] = append(s.Progs[p], impl.Ins{Op: map[int]int{2: impl.OpSend, 3: impl.OpTake}[e.Kind], N: e.Peer})
			}
			s.Progs[p] = append(s.Progs[p], impl.Ins{Op: impl.OpEnd})
			s.States[p] = fromTo(len(events), 0, 0, 0, 0)
		}
		want := wantSysOk(s)
		if want != inRow(s) {
			t.Fatalf("it is not the row that decides: %+v", s)
		}
		if impl.SysOk(s) != want {
			t.Fatalf("SysOk(%+v) is not %v", s, want)
		}
		if want {
			counts[1]++
		} else {
			counts[0]++
		}
	}
	if counts[0] < 1000 || counts[1] < 1000 {
		t.Error("few:", counts)
	}
}

func putIn(r *rand.Rand, s *impl.Sys, p int, e impl.Event) {
	s.Hist[p] = slices.Insert(s.Hist[p], r.Intn(len(s.Hist[p])+1), e)
}

func TestNewSystems(t *testing.T) {
	for n := 1; n <= 4; n++ {
		progs := slices.Repeat([][]impl.Ins{program(t, "take 1 any", "send 0 1", "end")}, n)
		progs[n-1] = ends(30, 29)
		s, ok := impl.SysNew(progs)
		if !ok || !sameSys(s, wantNew(progs...)) || !impl.SysOk(s) || len(s.Ways) != n*n || len(s.Hist) != n {
			t.Errorf("SysNew(%+v) is %+v, %v", progs, s, ok)
		}
		for p := range s.States {
			if !sameState(s.States[p], impl.StateNew()) {
				t.Errorf("%d: %+v", p, s.States[p])
			}
		}
	}
}

func TestNoNewSystems(t *testing.T) {
	one := program(t, "end")
	wrong := [][][]impl.Ins{nil, {}, {nil}, {{}}, slices.Repeat([][]impl.Ins{one}, 5), slices.Repeat([][]impl.Ins{one}, 6),
		make([][]impl.Ins, 4), make([][]impl.Ins, 5), slices.Repeat([][]impl.Ins{one}, 3000000),
		{{{Op: impl.OpSend, N: 1}}}, {{{Op: impl.OpTake, N: 1}}}, {one, one, {{Op: impl.OpSend, N: 3}}}, {{{Op: impl.OpTake, N: 2}}, one}}
	for _, list := range badPrograms() {
		wrong = append(wrong, [][]impl.Ins{list}, [][]impl.Ins{one, list}, [][]impl.Ins{list, one, one, one}, [][]impl.Ins{one, one, one, list})
	}
	for _, progs := range wrong {
		if s, ok := impl.SysNew(progs); ok || !isZeroSys(s) {
			t.Errorf("SysNew of %d programs is %+v, %v", len(progs), s, ok)
		}
	}
}

func TestNewSystemsByChance(t *testing.T) {
	r := rand.New(rand.NewSource(13))
	counts := [2]int{}
	for range 4000 {
		progs := [][]impl.Ins{}
		for range r.Intn(6) {
			progs = append(progs, someProgram(r))
		}
		right := len(progs) >= 1 && len(progs) <= 4
		for _, list := range progs {
			for _, x := range list {
				right = right && wantOk(x, len(list), len(progs))
			}
		}
		s, ok := impl.SysNew(progs)
		if ok != right || ok && !sameSys(s, wantNew(progs...)) || !ok && !isZeroSys(s) {
			t.Fatalf("SysNew(%+v) is %+v, %v", progs, s, ok)
		}
		if ok {
			counts[1]++
		} else {
			counts[0]++
		}
	}
	if counts[0] < 500 || counts[1] < 500 {
		t.Error("few:", counts)
	}
}

// waysOf has of each way of n processes its number as what is on it, and a mark behind it.
func waysOf(n int) [][]impl.Item {
	ways := [][]impl.Item{}
	for i := range n {
		ways = append(ways, []impl.Item{{V: i}, {Mark: true}})
	}
	return ways
}

func TestEachWay(t *testing.T) {
	for n := range 7 {
		// Only how many processes there are, and the way itself, count; the system is not right.
		for _, have := range []int{0, 1, n, n*n - 1, n * n, n*n + 1, 60} {
			s := impl.Sys{Progs: make([][]impl.Ins, n), Ways: waysOf(max(have, 0)), States: make([]impl.State, 2)}
			for _, a := range append(wild(), n-1, n, -n) {
				for _, b := range append(wild(), n-1, n, -n) {
					want := []impl.Item{}
					if a >= 0 && b >= 0 && a < n && b < n && a*n+b < len(s.Ways) {
						want = []impl.Item{{V: a*n + b}, {Mark: true}}
					}
					if got := impl.WayOf(s, a, b); !slices.Equal(got, want) {
						t.Fatalf("the way from %d to %d of %d, with %d ways, is %+v", a, b, n, have, got)
					}
				}
			}
		}
	}
	for _, a := range wild() {
		for _, b := range wild() {
			if len(impl.WayOf(impl.Sys{}, a, b)) != 0 || len(impl.WayOf(impl.Sys{Ways: waysOf(9)}, a, b)) != 0 || len(impl.WayOf(impl.Sys{Progs: make([][]impl.Ins, 3)}, a, b)) != 0 {
				t.Error(a, b)
			}
		}
	}
	s := underWay(t)
	if !slices.Equal(impl.WayOf(s, 0, 1), []impl.Item{{V: 7}}) || !slices.Equal(impl.WayOf(s, 1, 0), []impl.Item{{V: 5}}) || len(impl.WayOf(s, 0, 0)) != 0 || len(impl.WayOf(s, 1, 1)) != 0 {
		t.Errorf("%+v", s)
	}
	if len(impl.WayOf(s, 0, 2)) != 0 || len(impl.WayOf(s, -1, 3)) != 0 || len(impl.WayOf(s, 2, 0)) != 0 || len(impl.WayOf(s, 1, -1)) != 0 || len(impl.WayOf(s, 0, impl.Any)) != 0 {
		t.Error("ways that there are not")
	}
}

func TestNumbersOfWays(t *testing.T) {
	mark := impl.Item{Mark: true}
	cases := []struct {
		way  []impl.Item
		want []int
	}{
		{nil, nil}, {[]impl.Item{}, nil}, {[]impl.Item{mark}, nil}, {[]impl.Item{mark, mark}, nil},
		{[]impl.Item{{}}, []int{0}}, {[]impl.Item{{V: 3}}, []int{3}}, {[]impl.Item{{V: 3}, {V: 3}, {V: -4}}, []int{3, 3, -4}},
		{[]impl.Item{{V: 3}, mark, {V: 4}}, []int{3, 4}}, {[]impl.Item{mark, {V: 3}, {V: 2}}, []int{3, 2}}, {[]impl.Item{{V: 3}, {V: 2}, mark}, []int{3, 2}},
		{[]impl.Item{mark, {V: 1}, mark, mark, {}, mark}, []int{1, 0}},
		// What is no way of a right system is gone through like one.
		{[]impl.Item{{Mark: true, V: 5}, {V: impl.MaxNum + 1}, {V: math.MinInt}, {Mark: true, V: math.MaxInt}, {V: math.MaxInt}}, []int{impl.MaxNum + 1, math.MinInt, math.MaxInt}},
	}
	for _, c := range cases {
		if got := impl.Numbers(c.way); !slices.Equal(got, c.want) {
			t.Errorf("Numbers(%+v) is %v", c.way, got)
		}
	}
	long, want := []impl.Item{}, []int{}
	for i := range 5000 {
		long = append(long, impl.Item{Mark: i%3 == 0, V: i})
		if i%3 != 0 {
			want = append(want, i)
		}
	}
	if got := impl.Numbers(long); !slices.Equal(got, want) {
		t.Errorf("%d of %d", len(got), len(want))
	}
}

// withRoom has room behind each list, and tells whether anything in them or behind them was written into.
func withRoom[T comparable](lists [][]T, odd T) ([][]T, func() bool) {
	rooms := [][]T{}
	for _, list := range lists {
		rooms = append(rooms, append(slices.Clone(list), odd, odd, odd))
	}
	kept := cloneLists(rooms)
	given := make([][]T, len(lists)+2)
	for i, list := range lists {
		given[i] = rooms[i][:len(list)]
	}
	given[len(lists)], given[len(lists)+1] = []T{odd}, []T{odd}
	outer := slices.Clone(given)
	return given[:len(lists)], func() bool {
		same := func(a, b []T) bool { return len(a) == len(b) && (len(a) == 0 || &a[0] == &b[0]) }
		return sameLists(rooms, kept) && slices.EqualFunc(given, outer, same) && sameLists(given, outer)
	}
}

// roomySys is s with room behind all of its lists, and a function that tells whether all is as it was.
func roomySys(s impl.Sys) (impl.Sys, func() bool) {
	progs, sameProgs := withRoom(s.Progs, impl.Ins{Op: -1, R: -2, A: -3, B: -4, N: -5})
	ways, sameWays := withRoom(s.Ways, impl.Item{Mark: true, V: -71})
	hist, sameHist := withRoom(s.Hist, impl.Event{Kind: -72, Peer: -73, V: -74})
	held := []func() bool{sameProgs, sameWays, sameHist}
	states := []impl.State{}
	for _, x := range s.States {
		state, same := roomy(x)
		states, held = append(states, state), append(held, same)
	}
	states = append(states, impl.State{At: -75, Code: -76})
	kept := slices.Clone(states)
	held = append(held, func() bool { return slices.EqualFunc(states, kept, sameState) })
	given := impl.Sys{Progs: progs, States: states[:len(s.States)], Ways: ways, Hist: hist}
	return given, func() bool {
		for _, same := range held {
			if !same() {
				return false
			}
		}
		return true
	}
}

func wipe[T any](lists [][]T, odd T) {
	for _, list := range lists {
		list = list[:cap(list)]
		for i := range list {
			list[i] = odd
		}
	}
}

func TestSystemsAreNotWrittenInto(t *testing.T) {
	r := rand.New(rand.NewSource(14))
	list := []impl.Sys{{}, underWay(t), sends(t, 12, 0), sends(t, 13, 0), ring(4, 30, 0), wantNew(badPrograms()...), wantNew(make([][]impl.Ins, 4)...)}
	for range 300 {
		s := someSys(r, r.Intn(60))
		list = append(list, cloneSys(s))
		someTurn(r, &s)
		list = append(list, s)
	}
	for _, from := range list {
		s, same := roomySys(from)
		want := impl.SysOk(from)
		if impl.SysOk(s) != want || impl.SysOk(s) != want {
			t.Fatalf("twice is not once: %+v", s)
		}
		for a := -1; a < len(s.Progs)+1 && a < 6; a++ {
			for b := -1; b < len(s.Progs)+1 && b < 6; b++ {
				way, again := impl.WayOf(s, a, b), impl.WayOf(s, a, b)
				told := impl.Numbers(way)
				wipe([][]impl.Item{way}, impl.Item{V: -99})
				nums := impl.Numbers(again)
				overwrite(told)
				if !slices.Equal(nums, impl.Numbers(again)) || !slices.Equal(again, impl.WayOf(s, a, b)) || !same() {
					t.Fatalf("the way from %d to %d is shared or written into: %+v", a, b, s)
				}
			}
		}
		for _, way := range s.Ways {
			overwrite(impl.Numbers(way))
		}
		impl.SysNew(s.Progs)
		if !same() {
			t.Fatalf("it was written into: %+v", from)
		}
	}
}

func TestNewSystemsShareNothing(t *testing.T) {
	for n := 1; n <= 4; n++ {
		// The same program for all: what comes must not be the same list.
		one := append(program(t, "take 0 any", "send 0 0", "end"), impl.Ins{Op: -1})[:3]
		given, same := withRoom(slices.Repeat([][]impl.Ins{one}, n), impl.Ins{Op: -1})
		shared := slices.Repeat([][]impl.Ins{one}, n)
		for _, progs := range [][][]impl.Ins{given, shared} {
			want := wantNew(cloneLists(progs)...)
			s, ok := impl.SysNew(progs)
			other, _ := impl.SysNew(progs)
			if !ok || !sameSys(s, want) {
				t.Fatalf("%+v, %v", s, ok)
			}
			// Each list is written into by itself; all others must be as they were.
			for p := range n {
				wipe(s.Progs[p:p+1], impl.Ins{Op: -9})
				overwrite(s.States[p].Regs)
				wipe(s.Ways[p:p+1], impl.Item{V: 4})
				wipe(s.Hist[p:p+1], impl.Event{Kind: 4})
				overwrite(s.States[p].Out)
				for q := p + 1; q < n; q++ {
					if !slices.Equal(s.Progs[q], want.Progs[q]) || !sameState(s.States[q], want.States[q]) || len(s.Hist[q]) != 0 {
						t.Fatalf("%d and %d share: %+v", p, q, s)
					}
				}
			}
			if !sameSys(other, want) || !same() || !slices.Equal(one, want.Progs[0]) || one[:4][3] != (impl.Ins{Op: -1}) {
				t.Fatal("it is shared")
			}
		}
	}
}

// Where nothing is on a way, another number behind it must not come to stand on another.
func TestNewWaysAreApart(t *testing.T) {
	s, _ := impl.SysNew(slices.Repeat([][]impl.Ins{ends(1, 0)}, 4))
	for i := range s.Ways {
		s.Ways[i] = append(s.Ways[i], impl.Item{V: i})
	}
	for p := range s.Hist {
		s.Hist[p] = append(s.Hist[p], impl.Event{Kind: 1, V: p})
		s.States[p].Out = append(s.States[p].Out, p)
	}
	for i, way := range s.Ways {
		if !slices.Equal(way, []impl.Item{{V: i}}) {
			t.Errorf("%d: %+v", i, way)
		}
	}
	for p := range s.Hist {
		if s.Hist[p][0].V != p || s.States[p].Out[0] != p {
			t.Errorf("%d: %+v", p, s)
		}
	}
}
