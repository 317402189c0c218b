package tests

import (
	"math"
	"math/rand"
	"slices"
	"testing"

	"loop.example/g00196/impl"
)

func sameKept(a, b []impl.Kept) bool {
	return slices.EqualFunc(a, b, func(x, y impl.Kept) bool { return x.N == y.N && sameState(x.S, y.S) })
}

func cloneKept(keep []impl.Kept) []impl.Kept {
	other := slices.Clone(keep)
	for i := range other {
		other[i].S = cloneState(other[i].S)
	}
	return other
}

// keptAt are the states behind these numbers of events, none of which is more than there are.
func keptAt(list []impl.Ins, events []impl.Event, places ...int) []impl.Kept {
	keep := []impl.Kept{}
	for _, n := range places {
		s, _ := wantReplay(list, events[:n])
		keep = append(keep, impl.Kept{N: n, S: s})
	}
	return keep
}

// wantKept is KeepAll, told once more.
func wantKept(list []impl.Ins, events []impl.Event) []impl.Kept {
	if _, ok := wantReplay(list, events); !ok {
		return nil
	}
	keep := []impl.Kept{}
	for n := 0; n <= len(events); n += 8 {
		keep = append(keep, keptAt(list, events, n)...)
	}
	return keep
}

// wantKeptOk is KeptOk, told once more.
func wantKeptOk(list []impl.Ins, events []impl.Event, keep []impl.Kept) bool {
	if _, ok := wantReplay(list, events); !ok || len(keep) == 0 || keep[0].N != 0 {
		return false
	}
	for i, x := range keep {
		if i > 0 && x.N <= keep[i-1].N || x.N > len(events) {
			return false
		}
		if !sameKept(keep[i:i+1], keptAt(list, events, x.N)) {
			return false
		}
	}
	return true
}

// wantRestore is Restore, told once more.
func wantRestore(list []impl.Ins, events []impl.Event, keep []impl.Kept, n int) (impl.State, int) {
	if !wantKeptOk(list, events, keep) || n < 0 || n > len(events) {
		return impl.State{}, -1
	}
	most := 0
	for _, x := range keep {
		if x.N <= n {
			most = max(most, x.N)
		}
	}
	s, _ := wantReplay(list, events[:n])
	return s, n - most
}

// holdKeep holds KeepAll against wantKept.
func holdKeep(t *testing.T, list []impl.Ins, events []impl.Event) []impl.Kept {
	t.Helper()
	got, want := impl.KeepAll(list, events), wantKept(list, events)
	if !sameKept(got, want) {
		t.Fatalf("KeepAll(%+v, %+v) is %+v, not %+v", list, events, got, want)
	}
	return got
}

// holdRestore holds Restore and Again to one number of events.
func holdRestore(t *testing.T, list []impl.Ins, events []impl.Event, keep []impl.Kept, n int) int {
	t.Helper()
	want, wantAgain := wantRestore(list, events, keep, n)
	got, again := impl.Restore(list, events, keep, n)
	if again != wantAgain || !sameState(got, want) || again < 0 && !isZeroState(got) {
		t.Fatalf("Restore(%+v, %+v, %+v, %d) is %+v, %d, not %+v, %d", list, events, keep, n, got, again, want, wantAgain)
	}
	if count := impl.Again(list, events, keep, n); count != wantAgain {
		t.Fatalf("Again(%+v, %+v, %+v, %d) is %d, not %d", list, events, keep, n, count, wantAgain)
	}
	return again
}

// holdKept holds KeptOk, Restore and Again of a list of kept states, which is right or not as want says.
func holdKept(t *testing.T, what string, list []impl.Ins, events []impl.Event, keep []impl.Kept, want bool) {
	t.Helper()
	if wantKeptOk(list, events, keep) != want {
		t.Fatalf("%s: the telling says it otherwise: %+v", what, keep)
	}
	if got := impl.KeptOk(list, events, keep); got != want {
		t.Fatalf("%s: KeptOk(%+v, %+v, %+v) is %v", what, list, events, keep, got)
	}
	most := len(events)
	for _, n := range []int{math.MinInt, -most, -8, -1, 0, 1, most / 2, most - 1, most, most + 1, most + 8, math.MaxInt} {
		again := holdRestore(t, list, events, keep, n)
		if done := want && n >= 0 && n <= most; done != (again >= 0) || !done && again != -1 {
			t.Fatalf("%s: to %d of %d: %d", what, n, most, again)
		}
	}
}

// holdNothingKept holds all four of what has no Replay, whatever is kept.
func holdNothingKept(t *testing.T, list []impl.Ins, events []impl.Event, kept ...[]impl.Kept) {
	t.Helper()
	if _, ok := wantReplay(list, events); ok {
		t.Fatalf("there is a Replay of %+v, %+v", list, events)
	}
	if got := impl.KeepAll(list, events); len(got) != 0 {
		t.Fatalf("KeepAll(%+v, %+v) is %+v", list, events, got)
	}
	for _, keep := range append(kept, nil, []impl.Kept{}, []impl.Kept{{}}, []impl.Kept{{S: impl.StateNew()}}) {
		if impl.KeptOk(list, events, keep) {
			t.Fatalf("KeptOk(%+v, %+v, %+v)", list, events, keep)
		}
		for _, n := range []int{math.MinInt, -1, 0, 1, 7, 8, len(events) - 1, len(events), len(events) + 1, math.MaxInt} {
			s, again := impl.Restore(list, events, keep, n)
			if again != -1 || !isZeroState(s) || impl.Again(list, events, keep, n) != -1 {
				t.Fatalf("Restore(%+v, %+v, %+v, %d) is %+v, %d", list, events, keep, n, s, again)
			}
		}
	}
}

// counter goes on with every kind of event, and is never twice in the same state.
func counter(t *testing.T) []impl.Ins {
	return program(t, "set 0 1", "set 1 5", "add 3 3 0", "print 3", "take 2 any", "send 2 2", "sub 1 1 3", "jump 2")
}

// idle is in the same state behind all of its events, so that only where a state is kept can be wrong.
func idle(t *testing.T, n int) ([]impl.Ins, []impl.Event) {
	return program(t, "jump 0"), slices.Repeat([]impl.Event{local()}, n)
}

func upTo(n int) []int {
	list := []int{}
	for i := range n + 1 {
		list = append(list, i)
	}
	return list
}

func TestEveryIsEight(t *testing.T) {
	if impl.Every != 8 {
		t.Error(impl.Every)
	}
}

func TestNothingIsKeptOfWhatIsNoProgram(t *testing.T) {
	for _, list := range badPrograms() {
		for _, n := range []int{0, 1, 7, 8, 9, 16, 200, 201} {
			_, events := idle(t, n)
			holdNothingKept(t, list, events, keptAt(program(t, "jump 0"), events, 0, n/2, n))
			holdNothingKept(t, list, slices.Repeat([]impl.Event{{}}, n))
		}
		holdNothingKept(t, list, nil)
	}
}

func TestNothingIsKeptOfAnEventThatIsNone(t *testing.T) {
	r := rand.New(rand.NewSource(50))
	for _, list := range append(longPrograms(t), counter(t)) {
		events := runBy(r, list, 40)
		keep := wantKept(list, events)
		for at := range events {
			for _, off := range []impl.Event{{}, {Kind: 5}, {Kind: events[at].Kind, Peer: -1, V: events[at].V}, {Kind: events[at].Kind, Peer: events[at].Peer, V: impl.MaxNum + 1}} {
				changed := slices.Clone(events)
				changed[at] = off
				holdNothingKept(t, list, changed, keep, keep[:1], keptAt(list, events, upTo(at)...))
			}
			holdNothingKept(t, list, slices.Insert(slices.Clone(events), at, impl.Event{}), keep)
		}
		holdNothingKept(t, list, append(slices.Clone(events), impl.Event{}), keep, keep[:1])
	}
}

func TestNothingIsKeptOfAnEventTooMany(t *testing.T) {
	r := rand.New(rand.NewSource(51))
	for _, list := range append(longPrograms(t)[:5], counter(t)) {
		events := runBy(r, list, 201)
		keep := wantKept(list, events[:200])
		if len(events) != 201 || len(keep) != 26 {
			t.Fatal("it does not go on:", list)
		}
		holdNothingKept(t, list, events, keep, keep[:1])
	}
	list, events := idle(t, 100000)
	for _, n := range []int{201, 208, 256, 400, 100000} {
		holdNothingKept(t, list, events[:n], keptAt(list, events, 0, 8, 200))
	}
	// What ended or went wrong takes no more.
	for _, lines := range [][]string{{"end"}, {"set 0 40000", "mul 0 0 0", "end"}, {"set 1 1"}} {
		list := program(t, lines...)
		events := runBy(r, list, 200)
		holdNothingKept(t, list, append(slices.Clone(events), local()), wantKept(list, events))
	}
}

func TestKeptOfHowManyEvents(t *testing.T) {
	r := rand.New(rand.NewSource(52))
	for _, list := range append(longPrograms(t)[:5], counter(t)) {
		all := runBy(r, list, 200)
		for n := range 201 {
			keep := holdKeep(t, list, all[:n])
			// As many as whole times Every, and the one behind no event.
			if len(keep) != n/impl.Every+1 {
				t.Fatalf("%d of %d events are kept", len(keep), n)
			}
			for i, x := range keep {
				s, ok := impl.Replay(list, all[:i*8])
				if x.N != i*8 || !ok || !sameState(x.S, s) {
					t.Fatalf("number %d of %d events is %+v", i, n, x)
				}
			}
			if !impl.KeptOk(list, all[:n], keep) {
				t.Fatalf("what is kept of %d events is not right: %+v", n, keep)
			}
		}
	}
}

func TestNumbersThatAreKept(t *testing.T) {
	list, all := idle(t, 200)
	for n, want := range map[int][]int{0: {0}, 1: {0}, 7: {0}, 8: {0, 8}, 9: {0, 8}, 15: {0, 8}, 16: {0, 8, 16}, 17: {0, 8, 16}, 23: {0, 8, 16}, 24: {0, 8, 16, 24}} {
		got := []int{}
		for _, x := range impl.KeepAll(list, all[:n]) {
			got = append(got, x.N)
		}
		if !slices.Equal(got, want) {
			t.Errorf("of %d events are kept %v, not %v", n, got, want)
		}
	}
	keep := impl.KeepAll(list, all)
	if len(keep) != 26 || keep[25].N != 200 || keep[24].N != 192 {
		t.Errorf("of all: %+v", keep)
	}
	for _, none := range [][]impl.Event{nil, {}} {
		if keep := impl.KeepAll(list, none); !sameKept(keep, []impl.Kept{{S: impl.StateNew()}}) {
			t.Errorf("of none: %+v", keep)
		}
		holdKept(t, "of none", list, none, []impl.Kept{{S: impl.StateNew()}}, true)
	}
}

func TestKeptSpelledOut(t *testing.T) {
	list := program(t, "set 0 3", "add 1 1 0", "print 1", "take 2 any", "send 1 2", "jump 1")
	events := []impl.Event{local(), local(), {Kind: impl.EvPrint, V: 3}, {Kind: impl.EvTake, Peer: 2, V: -4}, {Kind: impl.EvSend, Peer: 1, V: -4}, local(),
		local(), {Kind: impl.EvPrint, V: 6}, {Kind: impl.EvTake, Peer: 0, V: 7}, {Kind: impl.EvSend, Peer: 1, V: 7}, local(),
		local(), {Kind: impl.EvPrint, V: 9}, {Kind: impl.EvTake, Peer: 3, V: 0}, {Kind: impl.EvSend, Peer: 1, V: 0}, local(), local()}
	want := []impl.Kept{
		{N: 0, S: fromTo(0, 0, 0, 0, 0)},
		{N: 8, S: impl.State{At: 3, Regs: []int{3, 6, -4, 0}, Out: []int{3, 6}}},
		{N: 16, S: impl.State{At: 1, Regs: []int{3, 9, 0, 0}, Out: []int{3, 6, 9}}},
	}
	if keep := holdKeep(t, list, events); !sameKept(keep, want) || !impl.KeptOk(list, events, want) {
		t.Fatalf("%+v", keep)
	}
	behind := map[int]impl.State{
		0: want[0].S, 8: want[1].S, 16: want[2].S,
		1:  fromTo(1, 3, 0, 0, 0),
		7:  {At: 2, Regs: []int{3, 6, -4, 0}, Out: []int{3}},
		10: {At: 5, Regs: []int{3, 6, 7, 0}, Out: []int{3, 6}},
		15: {At: 5, Regs: []int{3, 9, 0, 0}, Out: []int{3, 6, 9}},
		17: {At: 2, Regs: []int{3, 12, 0, 0}, Out: []int{3, 6, 9}},
	}
	for n, s := range behind {
		for i, keep := range [][]impl.Kept{want, want[:2], want[:1], {want[0], want[2]}} {
			from := []int{n / 8 * 8, min(n/8, 1) * 8, 0, n / 16 * 16}[i]
			got, again := impl.Restore(list, events, keep, n)
			if again != n-from || !sameState(got, s) || impl.Again(list, events, keep, n) != n-from {
				t.Errorf("to %d with %d: %+v, %d, not %+v, %d", n, i, got, again, s, n-from)
			}
		}
	}
}

// What ended and what went wrong is kept as it is, where it is behind just as many events.
func TestEndsAndFaultsAreKept(t *testing.T) {
	sevens := []string{"set 0 1", "set 1 2", "set 2 3", "set 3 4", "set 0 5", "set 1 40000", "print 1"}
	for last, want := range map[string]impl.State{
		"end":       {At: 7, Regs: []int{5, 40000, 3, 4}, Out: []int{40000}, Code: impl.StEnd},
		"mul 1 1 1": {At: 7, Regs: []int{5, 40000, 3, 4}, Out: []int{40000}, Code: impl.StFault},
		"set 1 6":   {At: 7, Regs: []int{5, 6, 3, 4}, Out: []int{40000}, Code: impl.StFault},
	} {
		list := program(t, append(slices.Clone(sevens), last)...)
		events := runBy(rand.New(rand.NewSource(53)), list, 200)
		keep := holdKeep(t, list, events)
		if len(events) != 8 || len(keep) != 2 || !sameState(keep[1].S, want) {
			t.Fatalf("%s: %+v of %+v", last, keep, events)
		}
		holdKept(t, last, list, events, keep, true)
		if s, again := impl.Restore(list, events, keep, 8); again != 0 || !sameState(s, want) {
			t.Errorf("%s, kept: %+v, %d", last, s, again)
		}
		if s, again := impl.Restore(list, events, keep[:1], 8); again != 8 || !sameState(s, want) {
			t.Errorf("%s, done again: %+v, %d", last, s, again)
		}
		for code := range 3 {
			other := cloneKept(keep)
			other[1].S.Code = code
			holdKept(t, last, list, events, other, code == want.Code)
		}
	}
	printer := program(t, "print 0", "jump 0")
	prints := append(slices.Repeat([]impl.Event{{Kind: impl.EvPrint}, local()}, 60), impl.Event{Kind: impl.EvPrint})
	keep := holdKeep(t, printer, prints)
	want := impl.State{Regs: many(4, 0), Out: many(60, 0), Code: impl.StFault}
	if s, again := impl.Restore(printer, prints, keep, 121); len(keep) != 16 || again != 1 || !sameState(s, want) {
		t.Errorf("a print too many: %+v, %d", s, again)
	}
	holdKept(t, "a print too many", printer, prints, append(keep, impl.Kept{N: 121, S: want}), true)
	holdNothingKept(t, printer, append(slices.Clone(prints), local()), keep)
}

// Each part that has the first one is right, and no other.
func TestPartsOfWhatIsKept(t *testing.T) {
	r := rand.New(rand.NewSource(54))
	for _, list := range append(longPrograms(t), counter(t)) {
		for _, n := range []int{40, 47} {
			events := runBy(r, list, n)
			keep := holdKeep(t, list, events)
			for set := range 1 << len(keep) {
				part := []impl.Kept{}
				for i, x := range keep {
					if set>>i&1 == 1 {
						part = append(part, x)
					}
				}
				holdKept(t, "a part", list, events, part, set&1 == 1)
			}
		}
	}
}

func TestKeptAtOtherNumbers(t *testing.T) {
	r := rand.New(rand.NewSource(55))
	for _, list := range append(longPrograms(t)[:5], counter(t)) {
		for _, n := range []int{3, 20, 200} {
			events := runBy(r, list, n)
			every := keptAt(list, events, upTo(n)...)
			holdKept(t, "each number", list, events, every, true)
			holdKept(t, "the first and the last", list, events, keptAt(list, events, 0, n), true)
			holdKept(t, "the first two", list, events, every[:2], true)
			holdKept(t, "the last two behind the first", list, events, keptAt(list, events, 0, n-1, n), true)
			for i := 1; i < n; i += n/40 + 1 {
				if i > 1 {
					holdKept(t, "two more", list, events, keptAt(list, events, 0, 1, i), true)
				}
				holdKept(t, "one more", list, events, keptAt(list, events, 0, i), true)
				holdKept(t, "not the first", list, events, every[i:], false)
			}
		}
	}
}

func TestKeptWithoutAFirst(t *testing.T) {
	list, events := idle(t, 20)
	s := impl.StateNew()
	for _, keep := range [][]impl.Kept{nil, {}, {{N: 1, S: s}}, {{N: 8, S: s}}, {{N: 8, S: s}, {N: 16, S: s}}, {{N: -1, S: s}}, {{N: -1, S: s}, {N: 0, S: s}},
		{{N: -8, S: s}, {N: 0, S: s}, {N: 8, S: s}}, {{N: 8, S: s}, {N: 0, S: s}}, {{N: 20, S: s}}, {{N: 21, S: s}}, {{N: math.MinInt, S: s}, {N: 0, S: s}}, {{N: math.MaxInt, S: s}}, {{}}, {{N: 8}}} {
		holdKept(t, "without a first", list, events, keep, false)
	}
	for _, none := range [][]impl.Event{nil, {}} {
		holdKept(t, "nothing of nothing", list, none, nil, false)
		holdKept(t, "nothing of nothing", list, none, []impl.Kept{}, false)
		holdKept(t, "one of nothing", list, none, []impl.Kept{{N: 1, S: s}}, false)
	}
}

func TestKeptTwiceAndDescending(t *testing.T) {
	r := rand.New(rand.NewSource(56))
	for _, list := range append(longPrograms(t)[:5], counter(t)) {
		events := runBy(r, list, 30)
		for _, c := range []struct {
			want   bool
			places []int
		}{
			{true, []int{0}}, {true, []int{0, 8, 16, 24}}, {true, []int{0, 1, 2, 3}}, {true, []int{0, 29, 30}},
			{false, []int{0, 0}}, {false, []int{0, 0, 8}}, {false, []int{0, 8, 8}}, {false, []int{0, 8, 8, 16}}, {false, []int{0, 8, 16, 16}}, {false, []int{0, 30, 30}},
			{false, []int{0, 16, 8}}, {false, []int{0, 8, 7}}, {false, []int{0, 8, 16, 15}}, {false, []int{0, 8, 16, 0}}, {false, []int{0, 16, 8, 24}}, {false, []int{0, 8, 0}},
			{false, []int{24, 16, 8, 0}}, {false, []int{8, 0}}, {false, []int{8, 0, 16}}, {false, []int{0, 8, 24, 16}},
		} {
			holdKept(t, "an order", list, events, keptAt(list, events, c.places...), c.want)
		}
	}
}

func TestKeptBelowAndAbove(t *testing.T) {
	for _, most := range []int{0, 1, 7, 8, 20, 199, 200} {
		list, events := idle(t, most)
		s := impl.StateNew()
		for _, n := range append(wild(), -8, most-1, most, most+1, most+8, 200, 201, 1<<8+8, 1<<16+8, 1<<32+8, 1<<63-8) {
			holdKept(t, "one more", list, events, []impl.Kept{{S: s}, {N: n, S: s}}, n > 0 && n <= most)
			holdKept(t, "alone", list, events, []impl.Kept{{N: n, S: s}}, n == 0)
			// Where there is no state, there is no zero one either.
			holdKept(t, "a zero state", list, events, []impl.Kept{{S: s}, {N: n}}, false)
			holdKept(t, "a zero state alone", list, events, []impl.Kept{{N: n}}, false)
			if most >= 8 {
				holdKept(t, "the last", list, events, []impl.Kept{{S: s}, {N: 5, S: s}, {N: n, S: s}}, n > 5 && n <= most)
			}
		}
	}
}

// otherStates are those that differ from s in one thing.
func otherStates(s impl.State) []impl.State {
	list := []impl.State{}
	with := func(change func(s *impl.State)) {
		other := cloneState(s)
		change(&other)
		list = append(list, other)
	}
	for i := range s.Regs {
		for _, by := range []int{1, -1, 1 << 32, impl.MaxNum} {
			with(func(s *impl.State) { s.Regs[i] += by })
		}
	}
	for i := range s.Out {
		with(func(s *impl.State) { s.Out[i]++ })
		with(func(s *impl.State) { s.Out = slices.Delete(s.Out, i, i+1) })
	}
	for _, by := range []int{1, -1, 1 << 32, -100} {
		with(func(s *impl.State) { s.At += by })
		with(func(s *impl.State) { s.Code += by })
	}
	with(func(s *impl.State) { s.Code += 2 })
	with(func(s *impl.State) { s.Out = append(s.Out, 0) })
	with(func(s *impl.State) { s.Out = append([]int{0}, s.Out...) })
	with(func(s *impl.State) { s.Out = many(61, 0) })
	with(func(s *impl.State) { s.Regs = append(s.Regs, 0) })
	with(func(s *impl.State) { s.Regs = append([]int{0}, s.Regs...) })
	with(func(s *impl.State) { s.Regs = s.Regs[:3] })
	with(func(s *impl.State) { s.Regs = s.Regs[1:] })
	with(func(s *impl.State) { s.Regs = s.Regs[:0] })
	with(func(s *impl.State) { s.Regs = nil })
	with(func(s *impl.State) { *s = impl.State{} })
	return list
}

func TestAnotherStateIsKept(t *testing.T) {
	r := rand.New(rand.NewSource(57))
	for _, list := range [][]impl.Ins{counter(t), program(t, "jump 0"), longPrograms(t)[4]} {
		for _, most := range []int{0, 16, 21} {
			events := runBy(r, list, most)
			for _, keep := range [][]impl.Kept{impl.KeepAll(list, events), keptAt(list, events, 0, most/2, most)[:min(most, 2)+1]} {
				holdKept(t, "as it was", list, events, keep, true)
				for at := range keep {
					for _, s := range otherStates(keep[at].S) {
						changed := cloneKept(keep)
						changed[at].S = s
						holdKept(t, "another state", list, events, changed, false)
					}
				}
			}
		}
	}
}

// A state that is that of another number of events is none of this one.
func TestStatesOfOtherNumbersAreKept(t *testing.T) {
	list := counter(t)
	events := runBy(rand.New(rand.NewSource(58)), list, 30)
	keep := impl.KeepAll(list, events)
	for n := range 31 {
		for at := range keep {
			changed := cloneKept(keep)
			changed[at].S = keptAt(list, events, n)[0].S
			holdKept(t, "the state of another", list, events, changed, changed[at].N == n)
			changed = cloneKept(keep)
			changed[at].N = n
			holdKept(t, "the number of another", list, events, changed, keep[at].N == n)
		}
	}
	// What was kept of one run is not what is kept of another, where they have parted.
	other := slices.Clone(events)
	at := slices.IndexFunc(events, func(e impl.Event) bool { return e.Kind == impl.EvTake })
	other[at] = impl.Event{Kind: impl.EvTake, Peer: (events[at].Peer + 1) % 4, V: events[at].V}
	holdKept(t, "from another peer", list, other, keep, true)
	other[at].V, other[at+1].V = 77, 77
	if at != 4 || events[at].V == 77 {
		t.Fatal(at, events)
	}
	holdKept(t, "another number", list, other, keep, false)
	holdKept(t, "ahead of another number", list, other, keep[:1], true)
	holdKept(t, "another program", program(t, "set 0 1"), []impl.Event{local()}, keep[:2], false)
}

func TestNothingPrintedIsNoneOrEmpty(t *testing.T) {
	list, events := idle(t, 9)
	for _, out := range [][]int{nil, {}, make([]int, 0, 5)} {
		keep := []impl.Kept{{S: impl.State{Regs: many(4, 0), Out: out}}, {N: 8, S: impl.State{Regs: many(4, 0), Out: out}}}
		holdKept(t, "nothing printed", list, events, keep, true)
	}
}

func TestRestoreToEach(t *testing.T) {
	r := rand.New(rand.NewSource(59))
	for _, list := range append(longPrograms(t), counter(t)) {
		for _, most := range []int{0, 1, 7, 8, 9, 16, 50} {
			events := runBy(r, list, most)
			most = len(events)
			for _, keep := range [][]impl.Kept{impl.KeepAll(list, events), keptAt(list, events, 0), keptAt(list, events, upTo(most)...), keptAt(list, events, 0, most/2, most)} {
				for n := -3; n <= most+9; n++ {
					holdRestore(t, list, events, keep, n)
				}
				for _, n := range append(wild(), 1<<8, 1<<32, 1<<32+8, -1<<32) {
					holdRestore(t, list, events, keep, n)
				}
			}
		}
	}
}

// What is restored is what is replayed, with less than Every done again.
func TestLessThanEveryIsDoneAgain(t *testing.T) {
	r := rand.New(rand.NewSource(60))
	lists := append(longPrograms(t), counter(t))
	for len(lists) < 60 {
		if list := someProgram(r); impl.ProgOk(list, impl.MaxProcs) {
			lists = append(lists, list)
		}
	}
	seen := [impl.Every]int{}
	for _, list := range lists {
		events := runBy(r, list, 200)
		keep := impl.KeepAll(list, events)
		for n := 0; n <= len(events); n++ {
			s, again := impl.Restore(list, events, keep, n)
			want, ok := impl.Replay(list, events[:n])
			if !ok || !sameState(s, want) || again < 0 || again >= impl.Every || again != n%impl.Every {
				t.Fatalf("to %d of %+v, %+v: %+v, %d, not %+v", n, list, events, s, again, want)
			}
			if impl.Again(list, events, keep, n) != again {
				t.Fatalf("to %d of %+v, %+v: %d", n, list, events, impl.Again(list, events, keep, n))
			}
			seen[again]++
		}
	}
	if slices.Min(seen[:]) < 150 {
		t.Error("few:", seen)
	}
}

// From a state that is kept all that is behind it is done again, whether that is less than Every or not.
func TestAllDoneAgainFromTheLastKept(t *testing.T) {
	list := counter(t)
	events := runBy(rand.New(rand.NewSource(61)), list, 200)
	for from := 1; from <= 200; from += 11 {
		keep := keptAt(list, events, 0, from)
		for n := range 201 {
			want := n
			if n >= from {
				want = n - from
			}
			if again := holdRestore(t, list, events, keep, n); again != want {
				t.Fatalf("from %d to %d: %d", from, n, again)
			}
		}
	}
}

// What is wrong behind n counts as much as what is wrong ahead of it.
func TestNothingIsRestoredAheadOfWhatIsWrong(t *testing.T) {
	list := counter(t)
	events := runBy(rand.New(rand.NewSource(62)), list, 40)
	keep := impl.KeepAll(list, events)
	wrong := cloneKept(keep)
	wrong[len(wrong)-1].S.Regs[2]++
	broken := slices.Clone(events)
	broken[39] = impl.Event{}
	for n := range 41 {
		if s, again := impl.Restore(list, events, wrong, n); again != -1 || !isZeroState(s) || impl.Again(list, events, wrong, n) != -1 {
			t.Errorf("ahead of a wrong state, to %d: %+v, %d", n, s, again)
		}
		if s, again := impl.Restore(list, broken, keep, n); again != -1 || !isZeroState(s) || impl.Again(list, broken, keep, n) != -1 {
			t.Errorf("ahead of a wrong event, to %d: %+v, %d", n, s, again)
		}
		if s, again := impl.Restore(list, events[:n], keep, n); n < 40 && (again != -1 || !isZeroState(s)) || n == 40 && again != 0 {
			t.Errorf("with a state behind more events than %d: %+v, %d", n, s, again)
		}
	}
}

// someKept are some of the states behind each number of events, at times with something else changed.
func someKept(r *rand.Rand, list []impl.Ins, events []impl.Event) []impl.Kept {
	keep := []impl.Kept{}
	if _, ok := wantReplay(list, events); !ok {
		keep = append(keep, impl.Kept{S: impl.StateNew()})
	} else {
		for n := range len(events) + 1 {
			if n == 0 && r.Intn(12) > 0 || n > 0 && r.Intn(4) == 0 {
				keep = append(keep, keptAt(list, events, n)...)
			}
		}
	}
	if len(keep) == 0 {
		return keep
	}
	at := r.Intn(len(keep))
	switch r.Intn(12) {
	case 0:
		keep[at].N += r.Intn(5) - 2
	case 1:
		list := otherStates(keep[at].S)
		keep[at].S = list[r.Intn(len(list))]
	case 2:
		keep = slices.Insert(keep, at, keep[r.Intn(len(keep))])
	case 3:
		other := r.Intn(len(keep))
		keep[at], keep[other] = keep[other], keep[at]
	}
	return keep
}

func TestKeptByChance(t *testing.T) {
	r := rand.New(rand.NewSource(63))
	pool := someEvents()
	right, wrong, between := 0, 0, 0
	for range 12000 {
		list := someProgram(r)
		events := []impl.Event{}
		if impl.ProgOk(list, impl.MaxProcs) {
			events = runBy(r, list, r.Intn(30))
		}
		if r.Intn(5) == 0 {
			events = slices.Insert(events, r.Intn(len(events)+1), pool[r.Intn(len(pool))])
		}
		holdKeep(t, list, events)
		keep := someKept(r, list, events)
		if impl.KeptOk(list, events, keep) != wantKeptOk(list, events, keep) {
			t.Fatalf("KeptOk(%+v, %+v, %+v)", list, events, keep)
		}
		for range 3 {
			switch again := holdRestore(t, list, events, keep, r.Intn(len(events)+3)-1); {
			case again < 0:
				wrong++
			case again == 0:
				right++
			default:
				between++
			}
		}
	}
	if right < 3000 || wrong < 3000 || between < 3000 {
		t.Error("few:", right, wrong, between)
	}
}

// Whatever is handed in is answered.
func TestKeptOfAnything(t *testing.T) {
	odd := impl.State{At: math.MinInt, Regs: []int{math.MaxInt}, Out: many(500, math.MinInt), Code: math.MaxInt}
	long := slices.Repeat([]impl.Kept{{S: impl.StateNew()}}, 5000)
	for i := range long {
		long[i].N = i
	}
	idles, locals := idle(t, 200)
	for _, list := range append(badPrograms(), idles, counter(t)) {
		for _, events := range [][]impl.Event{nil, {{}}, mixed(), locals, {{Kind: math.MinInt, Peer: math.MaxInt, V: math.MinInt}}} {
			for _, keep := range [][]impl.Kept{nil, {{}}, {{N: math.MinInt}}, {{S: odd}}, {{S: impl.StateNew()}, {N: math.MaxInt, S: odd}}, long} {
				if impl.KeptOk(list, events, keep) != wantKeptOk(list, events, keep) {
					t.Fatalf("KeptOk(%+v, %+v, ..)", list, events)
				}
				for _, n := range []int{math.MinInt, -1, 0, 1, 200, 201, math.MaxInt} {
					holdRestore(t, list, events, keep, n)
				}
			}
			holdKeep(t, list, events)
		}
	}
	holdKept(t, "as many as there are", idles, locals, long[:201], true)
	holdKept(t, "one too many", idles, locals, long[:202], false)
}

// roomyKept is keep with room behind all of its lists, and a function that tells whether anything in them or behind them was written into.
func roomyKept(keep []impl.Kept) ([]impl.Kept, func() bool) {
	room, sames := []impl.Kept{}, []func() bool{}
	for _, x := range keep {
		s, same := roomy(x.S)
		room, sames = append(room, impl.Kept{N: x.N, S: s}), append(sames, same)
	}
	room = append(room, impl.Kept{N: -77, S: impl.State{At: -78, Code: -79}})
	was := cloneKept(room)
	return room[:len(keep)], func() bool {
		for _, same := range sames {
			if !same() {
				return false
			}
		}
		return sameKept(room, was)
	}
}

// holdKeptApart writes into each list of what is kept, one by one, and holds that no other one changed with it.
func holdKeptApart(t *testing.T, keep []impl.Kept) {
	t.Helper()
	was := cloneKept(keep)
	for i := range keep {
		for _, one := range []struct{ list, was []int }{{keep[i].S.Regs, was[i].S.Regs}, {keep[i].S.Out, was[i].S.Out}} {
			overwrite(one.list)
			for j := range one.was {
				one.was[j] = -99
			}
			if !sameKept(keep, was) {
				t.Fatalf("two lists of an answer share memory: %+v", keep)
			}
		}
	}
}

func TestKeptWritesIntoNothingAndSharesNothing(t *testing.T) {
	r := rand.New(rand.NewSource(64))
	restored := 0
	for _, list := range append(append(longPrograms(t), counter(t)), badPrograms()...) {
		happened := []impl.Event{}
		if impl.ProgOk(list, impl.MaxProcs) {
			happened = runBy(r, list, 200)
		}
		for _, events := range [][]impl.Event{nil, happened, happened[:len(happened)/2], mixed()} {
			room := append(slices.Clone(events), impl.Event{Kind: -71, Peer: -72, V: -73})
			places := append(slices.Clone(list), impl.Ins{Op: -1, R: -2, A: -3, B: -4, N: -5})
			wasRoom, wasPlaces := slices.Clone(room), slices.Clone(places)
			given, prog := room[:len(events)], places[:len(list)]
			keep, keepAgain, want := impl.KeepAll(prog, given), impl.KeepAll(prog, given), wantKept(list, events)
			holdKeptApart(t, keep)
			if !sameKept(keepAgain, want) || !sameKept(impl.KeepAll(prog, given), want) {
				t.Fatalf("%+v: what is kept is shared", list)
			}
			for _, from := range [][]impl.Kept{want, want[:min(len(want), 1)], want[min(len(want), 1):], {{S: impl.State{Regs: []int{1, 2}, Out: []int{3}}}}} {
				kept, same := roomyKept(from)
				impl.KeptOk(prog, given, kept)
				for _, n := range []int{-1, 0, 1, 8, 15, 16, len(events), len(events) + 1} {
					s, again := impl.Restore(prog, given, kept, n)
					twice, _ := impl.Restore(prog, given, kept, n)
					right, _ := wantRestore(list, events, from, n)
					holdKeptApart(t, []impl.Kept{{S: s}})
					impl.Again(prog, given, kept, n)
					if !same() || !sameState(twice, right) {
						t.Fatalf("%+v to %d: what is restored is shared, or written into", list, n)
					}
					if again == 0 {
						restored++
					}
				}
			}
			if !slices.Equal(room, wasRoom) || !slices.Equal(places, wasPlaces) {
				t.Fatalf("%+v: an argument was written into", list)
			}
		}
	}
	if restored < 100 {
		t.Error("few were kept:", restored)
	}
}

// What was told stays what it was, whatever becomes of the arguments.
func TestWhatIsKeptStays(t *testing.T) {
	list := counter(t)
	events := runBy(rand.New(rand.NewSource(65)), list, 40)
	want := wantKept(list, events)
	keep := impl.KeepAll(list, events)
	from := cloneKept(keep)
	for n := range 41 {
		s, _ := impl.Restore(list, events, from, n)
		right := cloneState(keptAt(list, events, n)[0].S)
		for i := range from {
			overwrite(from[i].S.Regs)
			overwrite(from[i].S.Out)
		}
		if !sameState(s, right) {
			t.Errorf("what was restored to %d changed: %+v", n, s)
		}
		from = cloneKept(keep)
	}
	clear(list)
	clear(events)
	if !sameKept(keep, want) {
		t.Errorf("what was kept changed: %+v", keep)
	}
}

// One list in several places of the argument is none in the answer.
func TestKeptTellsApartWhatIsOne(t *testing.T) {
	list, events := idle(t, 20)
	regs, out := make([]int, 4, 9), make([]int, 0, 9)
	keep := slices.Repeat([]impl.Kept{{S: impl.State{Regs: regs, Out: out}}}, 21)
	for n := range keep {
		keep[n].N = n
	}
	for n := range keep {
		s, again := impl.Restore(list, events, keep, n)
		s.Out = append(s.Out, 5)
		overwrite(s.Regs)
		if again != 0 || !slices.Equal(regs[:9], make([]int, 9)) || !slices.Equal(out[:9], make([]int, 9)) {
			t.Fatalf("to %d: %d, %v, %v", n, again, regs[:9], out[:9])
		}
	}
	// Registers and what was printed may be one list, too.
	printer := program(t, "print 0", "jump 0")
	prints := slices.Repeat([]impl.Event{{Kind: impl.EvPrint}, local()}, 4)
	zeros := make([]int, 9)
	both := []impl.Kept{{S: impl.State{Regs: zeros[:4], Out: zeros[:0]}}, {N: 8, S: impl.State{Regs: zeros[:4], Out: zeros[:4]}}}
	for n := range 9 {
		s, again := impl.Restore(printer, prints, both, n)
		if right, _ := wantReplay(printer, prints[:n]); again != n%8 || !sameState(s, right) {
			t.Fatalf("to %d: %+v, %d", n, s, again)
		}
		holdKeptApart(t, []impl.Kept{{S: s}})
		if !slices.Equal(zeros, make([]int, 9)) {
			t.Fatalf("to %d: it was written into: %v", n, zeros)
		}
	}
}

// A map is gone through in another order each time; what is kept is told in one.
func TestKeptInOneOrder(t *testing.T) {
	list := counter(t)
	events := runBy(rand.New(rand.NewSource(66)), list, 200)
	want := wantKept(list, events)
	for range 200 {
		if keep := impl.KeepAll(list, events); !sameKept(keep, want) {
			t.Fatalf("%+v", keep)
		}
	}
}

// No call remembers another.
func TestKeptCallByCall(t *testing.T) {
	r := rand.New(rand.NewSource(67))
	lists := append(longPrograms(t), counter(t))
	runs := [][]impl.Event{}
	for _, list := range lists {
		runs = append(runs, runBy(r, list, 60))
	}
	for range 400 {
		i, j := r.Intn(len(lists)), r.Intn(len(lists))
		holdKeep(t, lists[i], runs[i])
		holdRestore(t, lists[i], runs[i], wantKept(lists[j], runs[j]), r.Intn(61))
		holdRestore(t, lists[i], runs[i], wantKept(lists[i], runs[i]), r.Intn(61))
	}
}
