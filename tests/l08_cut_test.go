package tests

import (
	"math"
	"math/rand"
	"slices"
	"testing"

	"loop.example/g00196/impl"
)

// counts is how many events each had.
func counts(s impl.Sys) []int {
	list := []int{}
	for _, events := range s.Hist {
		list = append(list, len(events))
	}
	return list
}

// within tells whether a is nowhere above b.
func within(a, b []int) bool {
	for p := range a {
		if a[p] > b[p] {
			return false
		}
	}
	return true
}

// cutsWithin is each cut that is nowhere above one.
func cutsWithin(cut []int) [][]int {
	list := [][]int{{}}
	for _, most := range cut {
		longer := [][]int{}
		for _, head := range list {
			for k := 0; k <= most; k++ {
				longer = append(longer, append(slices.Clone(head), k))
			}
		}
		list = longer
	}
	return list
}

// isCut, whole, closed and at tell chapter 8 once more, by what took what instead of by how many.
func (tell telling) isCut(cut []int) bool {
	if !tell.right || len(cut) != len(tell.s.Hist) {
		return false
	}
	return within(make([]int, len(cut)), cut) && within(cut, counts(tell.s))
}

func (tell telling) whole(cut []int) bool {
	if !tell.isCut(cut) {
		return false
	}
	for take, from := range tell.senders {
		if take.i < cut[take.p] && from.i >= cut[from.p] {
			return false
		}
	}
	return true
}

// closed counts the first events of each of which the cut has all the past.
func (tell telling) closed(cut []int) []int {
	if !tell.isCut(cut) {
		return nil
	}
	stay := make([]int, len(cut))
	for p, most := range cut {
		for stay[p] < most && within(tell.clock(one{p, stay[p]}), cut) {
			stay[p]++
		}
	}
	return stay
}

func (tell telling) at(cut []int) (impl.Sys, bool) {
	if !tell.whole(cut) {
		return impl.Sys{}, false
	}
	took := map[one]one{}
	for take, from := range tell.senders {
		took[from] = take
	}
	n := len(cut)
	then := wantNew(tell.s.Progs...)
	for p, k := range cut {
		then.Hist[p] = slices.Clone(tell.s.Hist[p][:k])
		then.States[p], _ = wantReplay(then.Progs[p], then.Hist[p])
		for i, e := range then.Hist[p] {
			take, taken := took[one{p, i}]
			if e.Kind == 2 && (!taken || take.i >= cut[take.p]) {
				then.Ways[p*n+e.Peer] = append(then.Ways[p*n+e.Peer], impl.Item{V: e.V})
			}
		}
	}
	for _, way := range then.Ways {
		if len(way) > 12 {
			return impl.Sys{}, false
		}
	}
	return then, true
}

// holdCut holds the four that take a cut against what is told once more, and tells whether the cut is whole.
func holdCut(t *testing.T, what string, tell telling, cut []int) bool {
	t.Helper()
	s := tell.s
	if got, want := impl.CutOk(s, cut), tell.isCut(cut); got != want {
		t.Fatalf("%s: CutOk(%+v, %v) is %v", what, s, cut, got)
	}
	if got, want := impl.Whole(s, cut), tell.whole(cut); got != want {
		t.Fatalf("%s: Whole(%+v, %v) is %v", what, s, cut, got)
	}
	if got, want := impl.Close(s, cut), tell.closed(cut); !slices.Equal(got, want) {
		t.Fatalf("%s: Close(%+v, %v) is %v, not %v", what, s, cut, got, want)
	}
	got, ok := impl.At(s, cut)
	if want, told := tell.at(cut); ok != told || !sameSys(got, want) {
		t.Fatalf("%s: At(%+v, %v) is %+v, %v, not %+v, %v", what, s, cut, got, ok, want, told)
	}
	if ok && !impl.SysOk(got) {
		t.Fatalf("%s: At(%+v, %v) is not right: %+v", what, s, cut, got)
	}
	return tell.whole(cut)
}

// holdNoCut holds that a cut is none.
func holdNoCut(t *testing.T, what string, s impl.Sys, cut []int) {
	t.Helper()
	got, ok := impl.At(s, cut)
	if impl.CutOk(s, cut) || impl.Whole(s, cut) || len(impl.Close(s, cut)) != 0 || ok || !isZeroSys(got) {
		t.Errorf("%s: %v is no cut of %+v", what, cut, s)
	}
}

// someCut is a cut of s.
func someCut(r *rand.Rand, s impl.Sys) []int {
	cut := counts(s)
	for p, most := range cut {
		if r.Intn(3) > 0 {
			cut[p] = r.Intn(most + 1)
		}
	}
	return cut
}

func TestNoCutsOfWhatIsNotRight(t *testing.T) {
	for _, s := range append(wrongSystems(t), wrongInOne(t)...) {
		cuts := [][]int{nil, {}, {0}, {0, 0}, {0, 0, 0}, {0, 0, 0, 0}, {0, 0, 0, 0, 0}, {1}, {1, 1}, {1, 0, 0}, {-1}, {math.MaxInt, math.MinInt}, counts(s)}
		for _, cut := range cuts {
			holdNoCut(t, "not right", s, cut)
		}
		if got := impl.Full(s); len(got) != 0 {
			t.Errorf("Full(%+v) is %v", s, got)
		}
	}
}

// stairs is a system of n of which none met another, and each had two events more than the one behind it, the last of them none.
func stairs(t *testing.T, n int) impl.Sys {
	s := wantNew(slices.Repeat([][]impl.Ins{program(t, "set 0 1", "print 0", "jump 0")}, n)...)
	for p := range n {
		for range 2 * (n - 1 - p) {
			play(&s, p, 0)
		}
	}
	return s
}

func TestCutsThatAreNone(t *testing.T) {
	for n := 1; n <= 4; n++ {
		s := stairs(t, n)
		most := counts(s)
		holdNoCut(t, "nil", s, nil)
		holdNoCut(t, "empty", s, []int{})
		holdNoCut(t, "too short", s, most[:n-1])
		holdNoCut(t, "too short, of nothing", s, make([]int, n-1))
		holdNoCut(t, "too long", s, append(slices.Clone(most), 0))
		holdNoCut(t, "too long, of nothing", s, make([]int, n+1))
		holdNoCut(t, "as long as the ways", s, make([]int, n*n+1))
		holdNoCut(t, "very long", s, make([]int, 100000))
		for p := range n {
			for _, start := range [][]int{most, make([]int, n)} {
				for _, k := range append(wild(), most[p]-1, most[p], most[p]+1, most[p]+2, -most[p]-1, 200, 201) {
					cut := slices.Clone(start)
					cut[p] = k
					if k < 0 || k > most[p] {
						holdNoCut(t, "one number", s, cut)
					} else if !impl.CutOk(s, cut) || !impl.Whole(s, cut) || !slices.Equal(impl.Close(s, cut), cut) {
						t.Errorf("%v is a cut of %v", cut, most)
					}
				}
			}
		}
		if n > 1 {
			// Too many of one make up for too few of another only in their sum.
			holdNoCut(t, "the other way round", s, append(slices.Clone(most[1:]), most[0]))
		}
	}
}

func TestNumbersOfACutMetAndPassed(t *testing.T) {
	for _, events := range []int{4, 199, 200} {
		s := worn(t, 3, 1, events, "print 0")
		for p, most := range []int{0, events, 0} {
			for k, want := range map[int]bool{-1: false, 0: true, most: true, most + 1: false} {
				cut := counts(s)
				cut[p] = k
				got, ok := impl.At(s, cut)
				if impl.CutOk(s, cut) != want || impl.Whole(s, cut) != want || ok != want || want && len(got.Hist[p]) != k {
					t.Errorf("%d of %d events", k, most)
				}
			}
		}
	}
}

func TestHowManyEventsEachHad(t *testing.T) {
	hold := func(s impl.Sys, want ...int) {
		t.Helper()
		if got := impl.Full(s); !slices.Equal(got, want) {
			t.Errorf("Full(%+v) is %v, not %v", s, got, want)
		}
	}
	for n := 1; n <= 4; n++ {
		hold(wantNew(slices.Repeat([][]impl.Ins{program(t, "end")}, n)...), make([]int, n)...)
		hold(stairs(t, n), []int{6, 4, 2, 0}[4-n:]...)
	}
	hold(underWay(t), 6, 3)
	hold(talk(t), 8, 5, 4)
	hold(sends(t, 12, 0), 24)
	hold(sends(t, 0, 12), 0)
	hold(worn(t, 2, 1, 200, "end"), 0, 200)
	hold(ring(4, 30, 0), 151, 151, 151, 151)
}

// holdWhole holds Whole of a cut against what is said of it, and all else of it.
func holdWhole(t *testing.T, what string, s impl.Sys, want bool, cut ...int) {
	t.Helper()
	if got := impl.Whole(s, cut); got != want || !impl.CutOk(s, cut) {
		t.Errorf("%s: Whole(%+v, %v) is %v", what, s, cut, got)
	}
	holdCut(t, what, tellingOf(s), cut)
}

func TestWholeCuts(t *testing.T) {
	// The first sends by its events 1, 3 and 5 and takes by its event 6; the second takes, sends, takes.
	s := played(t, pair(t), 0, 0, 0, 0, 1, 1, 1, 0, 0, 0, 0, 0)
	holdWhole(t, "nothing", s, true, 0, 0)
	holdWhole(t, "all", s, true, 9, 3)
	holdWhole(t, "a take without its send", s, false, 1, 1)
	holdWhole(t, "a take with its send", s, true, 2, 1)
	holdWhole(t, "a send without its take", s, true, 2, 0)
	holdWhole(t, "three sends without their takes", s, true, 6, 0)
	holdWhole(t, "the second take without its send", s, false, 3, 3)
	holdWhole(t, "the second take with its send", s, true, 4, 3)
	holdWhole(t, "the take of what was sent back, and no send", s, false, 7, 1)
	holdWhole(t, "it, and its send", s, true, 7, 2)
	holdWhole(t, "ahead of it", s, true, 6, 1)
	holdWhole(t, "a take and all of the other", s, false, 0, 3)
	holdWhole(t, "all of one and nothing of the other", s, false, 9, 0)
}

func TestWholeCutsOfTakesOfOneself(t *testing.T) {
	for n := 1; n <= 4; n++ {
		for p := range n {
			progs := slices.Repeat([][]impl.Ins{program(t, "set 0 1", "end")}, n)
			send, take := impl.Ins{Op: impl.OpSend, N: p}, impl.Ins{Op: impl.OpTake, N: impl.Any}
			progs[p] = []impl.Ins{send, send, take, send, take, take, {Op: impl.OpEnd}}
			s := wantNew(progs...)
			for range 7 {
				for q := range n {
					play(&s, q, q)
				}
			}
			// What one sends to itself stands ahead of its take, so that each cut has it.
			for _, cut := range cutsWithin(counts(s)) {
				holdWhole(t, "of oneself", s, true, cut...)
				if got := impl.Close(s, cut); !slices.Equal(got, cut) {
					t.Errorf("Close of %v is %v", cut, got)
				}
			}
		}
	}
	// Of those that send to themselves and to each other the own ones make up for no other.
	progs := [][]impl.Ins{program(t, "send 0 0", "send 1 0", "take 0 0", "end"), program(t, "send 1 0", "take 0 0", "take 0 1", "end")}
	s := played(t, progs, 0, 0, 0, 1, 1, 1)
	holdWhole(t, "sent to oneself only", s, false, 1, 2)
	holdWhole(t, "sent to both", s, true, 2, 2)
	holdWhole(t, "sent to oneself, and ahead of the take", s, true, 1, 1)
}

func TestWholeCutsOfTakesFromSeveralInTurn(t *testing.T) {
	progs := [][]impl.Ins{program(t, "send 3 0", "send 3 0", "end"), program(t, "set 1 5", "send 3 0", "send 3 0", "end"),
		program(t, "send 1 0", "send 3 0", "end"), program(t, "take 0 any", "take 0 any", "take 0 any", "take 0 any", "take 0 any", "end")}
	start := played(t, progs, 0, 0, 1, 1, 1, 2, 2)
	for _, order := range [][]int{{0, 1, 2, 0, 1}, {2, 1, 0, 1, 0}, {0, 0, 1, 1, 2}, {1, 0, 1, 0, 2}, {1, 1, 2, 0, 0}} {
		s := cloneSys(start)
		for _, peer := range order {
			if !play(&s, 3, peer) {
				t.Fatalf("it can't come: %+v", s)
			}
		}
		tell := tellingOf(s)
		for _, cut := range cutsWithin(counts(s)) {
			// Each of the three must have sent what was taken from it, whatever the others did.
			want := true
			for peer, sent := range []int{cut[0], max(cut[1]-1, 0), max(cut[2]-1, 0)} {
				took := 0
				for _, from := range order[:cut[3]] {
					if from == peer {
						took++
					}
				}
				want = want && took <= sent
			}
			if holdCut(t, "in turn", tell, cut) != want || impl.Whole(s, cut) != want {
				t.Fatalf("Whole of %v, taken in the order %v, is not %v", cut, order, want)
			}
		}
	}
}

// holdClose holds Close of a cut against what is said of it, and all else of both.
func holdClose(t *testing.T, what string, s impl.Sys, cut []int, want ...int) {
	t.Helper()
	if got := impl.Close(s, cut); !slices.Equal(got, want) {
		t.Errorf("%s: Close(%+v, %v) is %v, not %v", what, s, cut, got, want)
	}
	tell := tellingOf(s)
	holdCut(t, what, tell, cut)
	if !holdCut(t, what, tell, want) {
		t.Errorf("%s: %v is not whole", what, want)
	}
}

func TestCutsThatAreClosed(t *testing.T) {
	s := played(t, pair(t), 0, 0, 0, 0, 1, 1, 1, 0, 0, 0, 0, 0)
	for _, cut := range [][]int{{0, 0}, {9, 3}, {2, 1}, {2, 0}, {6, 0}, {4, 3}, {7, 2}, {9, 2}} {
		holdClose(t, "whole already", s, cut, cut...)
	}
	holdClose(t, "a take without its send", s, []int{1, 1}, 1, 0)
	holdClose(t, "what is behind it, too", s, []int{1, 3}, 1, 0)
	holdClose(t, "the second take without its send", s, []int{3, 3}, 3, 2)
	holdClose(t, "what was sent back", s, []int{9, 1}, 6, 1)
	holdClose(t, "all of one and nothing of the other", s, []int{9, 0}, 6, 0)
	holdClose(t, "nothing stays", s, []int{0, 3}, 0, 0)
}

// orders is each order of 0, 1, 2 and 3.
func orders() [][]int {
	list := [][]int{}
	for _, cut := range cutsWithin([]int{3, 3, 3, 3}) {
		if sorted := slices.Sorted(slices.Values(cut)); slices.Equal(sorted, []int{0, 1, 2, 3}) {
			list = append(list, cut)
		}
	}
	return list
}

// chain is four of which each, in an order, takes from the one ahead and sends to the next, after some local events; the first of the order only sends, the last only takes.
func chain(t *testing.T, order []int, ahead int) impl.Sys {
	t.Helper()
	progs := make([][]impl.Ins, 4)
	for k, p := range order {
		progs[p] = slices.Repeat(program(t, "set 1 5"), ahead)
		if k > 0 {
			progs[p] = append(progs[p], impl.Ins{Op: impl.OpTake, N: order[k-1]})
		}
		if k < 3 {
			progs[p] = append(progs[p], impl.Ins{Op: impl.OpSend, N: order[k+1]})
		}
		progs[p] = append(progs[p], impl.Ins{Op: impl.OpEnd})
	}
	s := wantNew(progs...)
	for _, p := range order {
		for range len(progs[p]) {
			if !play(&s, p, 0) {
				t.Fatalf("it can't come: %+v", s)
			}
		}
	}
	return s
}

// What falls away of one makes the next fall, whatever the order in which the four are numbered.
func TestWhatFallsAwayThroughOthers(t *testing.T) {
	list := orders()
	if len(list) != 24 {
		t.Fatal(len(list))
	}
	for _, order := range list {
		for ahead := range 3 {
			s := chain(t, order, ahead)
			for from, p := range order {
				cut, want := counts(s), counts(s)
				for k := range cut[p] {
					cut[p], want[p] = k, k
					sent := ahead + 1
					if from == 0 {
						sent = ahead
					}
					for _, q := range order[from+1:] {
						want[q] = ahead
						if k > sent {
							want[q] = counts(s)[q]
						}
					}
					if from == 3 {
						want = cut
					}
					holdClose(t, "a chain", s, cut, want...)
				}
			}
			// Of the first nothing, of the others all: without local events nothing stays of any.
			cut := counts(s)
			cut[order[0]] = 0
			want := many(4, ahead)
			want[order[0]] = 0
			holdClose(t, "nothing of the first", s, cut, want...)
		}
	}
}

// One that falls away once falls once more, since what it took earlier came, through others, from further behind.
func TestWhatFallsAwayTwice(t *testing.T) {
	for _, o := range orders() {
		send := func(to int) impl.Ins { return impl.Ins{Op: impl.OpSend, N: o[to]} }
		take := func(from int) impl.Ins { return impl.Ins{Op: impl.OpTake, N: o[from]} }
		still, end := impl.Ins{Op: impl.OpSet, N: 5}, impl.Ins{Op: impl.OpEnd}
		progs := make([][]impl.Ins, 4)
		// The later in the list of o[3] the shorter the way from o[0], so that each way that is found takes more away.
		progs[o[0]] = []impl.Ins{send(1), send(2), send(3), end}
		progs[o[1]] = []impl.Ins{still, take(0), send(2), send(3), end}
		progs[o[2]] = []impl.Ins{still, take(1), send(3), take(0), send(3), end}
		progs[o[3]] = []impl.Ins{still, take(2), still, take(1), still, take(0), still, take(2), end}
		s := wantNew(progs...)
		for range 20 {
			for _, p := range o {
				play(&s, p, 0)
			}
		}
		if events(s) != 24 {
			t.Fatalf("it has not come to its end: %+v", s)
		}
		list := func(first, second, third, fourth int) []int {
			cut := make([]int, 4)
			cut[o[0]], cut[o[1]], cut[o[2]], cut[o[3]] = first, second, third, fourth
			return cut
		}
		holdClose(t, "nothing of the first", s, list(0, 5, 6, 9), list(0, 1, 1, 1)...)
		holdClose(t, "one send", s, list(1, 5, 6, 9), list(1, 5, 3, 5)...)
		holdClose(t, "two sends", s, list(2, 5, 6, 9), list(2, 5, 6, 5)...)
		holdClose(t, "three sends", s, list(3, 5, 6, 9), list(3, 5, 6, 9)...)
		holdClose(t, "nothing of the second", s, list(4, 0, 6, 9), list(4, 0, 1, 1)...)
		holdClose(t, "the second ahead of its second send", s, list(4, 3, 6, 9), list(4, 3, 6, 3)...)
	}
}

// Of those that each wait for another first, nothing stays if the one that began it has nothing.
func TestClosesOfWhichNothingStays(t *testing.T) {
	for n := 1; n <= 4; n++ {
		for first := range n {
			progs := [][]impl.Ins{}
			for p := range n {
				progs = append(progs, []impl.Ins{{Op: impl.OpTake, N: (p + n - 1) % n}, {Op: impl.OpSend, N: (p + 1) % n}, {Op: impl.OpJump}})
			}
			progs[first] = append([]impl.Ins{{Op: impl.OpSend, N: (first + 1) % n}}, progs[first]...)
			progs[first][3].N = 1
			s := wantNew(progs...)
			for range 40 {
				for p := range n {
					play(&s, p, 0)
				}
			}
			cut := counts(s)
			if slices.Min(cut) < 8 {
				t.Fatalf("few events: %v", cut)
			}
			cut[first] = 0
			holdClose(t, "nothing stays", s, cut, make([]int, n)...)
			holdClose(t, "nothing", s, make([]int, n), make([]int, n)...)
		}
	}
}

// holdGreatest holds of each cut that its Close is the greatest one within it that is whole, against all of them.
func holdGreatest(t *testing.T, what string, s impl.Sys) (wholes, others int) {
	t.Helper()
	tell := tellingOf(s)
	list := cutsWithin(counts(s))
	whole := [][]int{}
	for _, cut := range list {
		if holdCut(t, what, tell, cut) {
			whole = append(whole, cut)
		}
	}
	for _, cut := range list {
		got := impl.Close(s, cut)
		if !within(got, cut) || !impl.Whole(s, got) || !slices.Equal(impl.Close(s, got), got) {
			t.Fatalf("%s: Close(%+v, %v) is %v, which is not whole, or above it", what, s, cut, got)
		}
		for _, other := range whole {
			if within(other, cut) && !within(other, got) {
				t.Fatalf("%s: Close(%+v, %v) is %v, and %v is somewhere greater", what, s, cut, got, other)
			}
		}
	}
	return len(whole), len(list) - len(whole)
}

func TestNoWholeCutIsGreater(t *testing.T) {
	list := []impl.Sys{underWay(t), talk(t), chain(t, []int{3, 1, 2, 0}, 0), chain(t, []int{0, 2, 1, 3}, 1), stairs(t, 3), wantNew(pair(t)...)}
	wholes, others := 0, 0
	for _, s := range list {
		a, b := holdGreatest(t, "spelled out", s)
		wholes, others = wholes+a, others+b
	}
	r := rand.New(rand.NewSource(29))
	for range 150 {
		a, b := holdGreatest(t, "by chance", someChat(r, r.Intn(16)))
		wholes, others = wholes+a, others+b
	}
	if wholes < 2000 || others < 2000 {
		t.Error("few:", wholes, others)
	}
}

// Of two whole cuts what both have, and what one of them has, are whole.
func TestWholeCutsMeet(t *testing.T) {
	r := rand.New(rand.NewSource(30))
	for range 300 {
		s := someChat(r, r.Intn(80))
		a, b := impl.Close(s, someCut(r, s)), impl.Close(s, someCut(r, s))
		both, either := []int{}, []int{}
		for p := range a {
			both, either = append(both, min(a[p], b[p])), append(either, max(a[p], b[p]))
		}
		for _, cut := range [][]int{a, b, both, either} {
			if !impl.Whole(s, cut) || !slices.Equal(impl.Close(s, cut), cut) {
				t.Fatalf("%v, of %v and %v, is not whole in %+v", cut, a, b, s)
			}
		}
	}
}

// An event of the cut that Close takes away hangs on one that the cut has not; one that stays does not.
func TestWhatFallsAwayHangsOnWhatIsNotThere(t *testing.T) {
	r := rand.New(rand.NewSource(31))
	gone, stays := 0, 0
	systems := []impl.Sys{talk(t), underWay(t), chain(t, []int{2, 0, 3, 1}, 1)}
	for range 120 {
		systems = append(systems, someChat(r, r.Intn(30)))
	}
	for _, s := range systems {
		list := all(s)
		on := map[[2]one]bool{}
		for _, x := range list {
			for _, y := range list {
				on[[2]one{x, y}] = hangs(s, x, y)
			}
		}
		for range 25 {
			cut := someCut(r, s)
			closed := impl.Close(s, cut)
			for _, x := range list {
				if x.i >= cut[x.p] {
					continue
				}
				missing := slices.ContainsFunc(list, func(y one) bool { return y.i >= cut[y.p] && on[[2]one{x, y}] })
				if missing != (x.i >= closed[x.p]) {
					t.Fatalf("%v hangs on what %v has not: %v, and Close is %v, in %+v", x, cut, missing, closed, s)
				}
				if missing {
					gone++
				} else {
					stays++
				}
			}
		}
	}
	if gone < 1500 || stays < 1500 {
		t.Error("few:", gone, stays)
	}
}

// The same by the clocks, with as many events as there can be.
func TestCutsOfAsManyEventsAsThereCanBe(t *testing.T) {
	progs := [][]impl.Ins{}
	for p := range 4 {
		progs = append(progs, []impl.Ins{{Op: impl.OpSend, N: (p + 1) % 4}, {Op: impl.OpTake, N: impl.Any}, {Op: impl.OpJump}})
	}
	s := wantNew(progs...)
	for range 200 {
		for p := range 4 {
			play(&s, p, (p+3)%4)
		}
	}
	if events(s) != 800 {
		t.Fatal(events(s))
	}
	holdWhole(t, "nothing", s, true, 0, 0, 0, 0)
	holdWhole(t, "all", s, true, 200, 200, 200, 200)
	// Each sends ahead of its first take: one send of each stays, and then one more round for each that is further away.
	holdClose(t, "nothing of one", s, []int{0, 200, 200, 200}, 0, 1, 4, 7)
	holdClose(t, "nothing of another", s, []int{200, 200, 0, 200}, 4, 7, 0, 1)
	tell := tellingOf(s)
	r := rand.New(rand.NewSource(32))
	for range 12 {
		holdCut(t, "as many as can be", tell, someCut(r, s))
	}
	clocks := [4][][]int{}
	for _, x := range all(s) {
		clocks[x.p] = append(clocks[x.p], impl.Clock(s, x.p, x.i))
	}
	for range 40 {
		cut := someCut(r, s)
		closed := impl.Close(s, cut)
		for p, k := range closed {
			if k > 0 && !within(clocks[p][k-1], cut) || k < cut[p] && within(clocks[p][k], cut) {
				t.Fatalf("Close of %v is %v", cut, closed)
			}
		}
	}
}

// noMarks is s without marks on its ways.
func noMarks(s impl.Sys) impl.Sys {
	return but(s, func(s *impl.Sys) {
		for i, way := range s.Ways {
			s.Ways[i] = slices.DeleteFunc(way, func(x impl.Item) bool { return x.Mark })
		}
	})
}

// holdAt holds that At of a cut is a system.
func holdAt(t *testing.T, what string, s impl.Sys, cut []int, want impl.Sys) {
	t.Helper()
	got, ok := impl.At(s, cut)
	if !ok || !sameSys(got, want) {
		t.Errorf("%s: At(%+v, %v) is %+v, %v, not %+v", what, s, cut, got, ok, want)
	}
	holdSys(t, what, got, true)
	holdCut(t, what, tellingOf(s), cut)
}

func TestAtNothingAndAtAll(t *testing.T) {
	r := rand.New(rand.NewSource(33))
	list := []impl.Sys{wantNew(pair(t)...), underWay(t), talk(t), sends(t, 12, 0), sends(t, 4, 3), sends(t, 0, 12), ring(4, 30, 2), worn(t, 2, 1, 200, "end"), stairs(t, 4)}
	for range 150 {
		list = append(list, someSys(r, r.Intn(150)))
	}
	marks := 0
	for _, s := range list {
		fresh, ok := impl.SysNew(s.Progs)
		if !ok {
			t.Fatalf("%+v", s)
		}
		holdAt(t, "nothing", s, make([]int, len(s.Progs)), fresh)
		holdAt(t, "all", s, impl.Full(s), noMarks(s))
		if !sameSys(s, noMarks(s)) {
			marks++
		}
	}
	if marks < 30 {
		t.Error("few had marks:", marks)
	}
}

func TestAtCutsBetween(t *testing.T) {
	s := but(played(t, pair(t), 0, 0, 0, 0, 1, 1, 1, 0, 0, 0, 0, 0), func(s *impl.Sys) {
		s.Ways[0], s.Ways[2] = []impl.Item{{Mark: true}}, []impl.Item{{Mark: true}, {Mark: true}}
		s.Ways[1] = append(s.Ways[1], impl.Item{Mark: true})
	})
	holdAt(t, "a send", s, []int{2, 0}, played(t, pair(t), 0, 0))
	holdAt(t, "two sends", s, []int{4, 0}, played(t, pair(t), 0, 0, 0, 0))
	holdAt(t, "three sends", s, []int{6, 0}, played(t, pair(t), 0, 0, 0, 0, 0, 0))
	holdAt(t, "three sends and a take", s, []int{6, 1}, played(t, pair(t), 0, 0, 0, 0, 0, 0, 1))
	holdAt(t, "sent back", s, []int{3, 2}, played(t, pair(t), 0, 0, 0, 1, 1))
	holdAt(t, "both taken", s, []int{5, 3}, played(t, pair(t), 0, 0, 0, 0, 0, 1, 1, 1))
	holdAt(t, "sent back and taken", s, []int{7, 2}, played(t, pair(t), 0, 0, 0, 0, 0, 0, 1, 1, 0))
	got, _ := impl.At(s, []int{6, 1})
	if way := impl.WayOf(got, 0, 1); !slices.Equal(way, []impl.Item{{V: 6}, {V: 7}}) || got.States[0].At != 6 || got.States[1].At != 1 || got.States[1].Regs[0] != 5 {
		t.Errorf("%+v", got)
	}
	for _, cut := range [][]int{{1, 1}, {3, 3}, {7, 1}, {0, 3}, {9, 0}} {
		if got, ok := impl.At(s, cut); ok || !isZeroSys(got) || !impl.CutOk(s, cut) {
			t.Errorf("At of %v, which is not whole, is %+v, %v", cut, got, ok)
		}
	}
}

// What ended, or went wrong, or printed, is as it was ahead of that.
func TestAtAheadOfTheEnd(t *testing.T) {
	progs := [][]impl.Ins{program(t, "set 0 40000", "print 0", "mul 0 0 0", "end"), program(t, "set 1 7", "print 1", "print 1", "end"), program(t, "set 2 5")}
	s := played(t, progs, 0, 0, 0, 1, 1, 1, 1, 2)
	if s.States[0].Code != impl.StFault || s.States[1].Code != impl.StEnd || s.States[2].Code != impl.StFault {
		t.Fatalf("%+v", s)
	}
	for _, cut := range cutsWithin([]int{3, 4, 1}) {
		list := slices.Concat(many(cut[0], 0), many(cut[1], 1), many(cut[2], 2))
		holdAt(t, "ahead of the end", s, cut, played(t, progs, list...))
	}
}

// flow is n of which a, behind one event, sent 1, 2, 3 .. to b so many times, by three events each of which the second sends, and b took so many, by two events each of which the first takes.
func flow(t *testing.T, n, a, b, sent, taken int) impl.Sys {
	t.Helper()
	progs := slices.Repeat([][]impl.Ins{program(t, "end")}, n)
	progs[a] = []impl.Ins{{Op: impl.OpSet, R: 1, N: 1}, {Op: impl.OpAdd, B: 1}, {Op: impl.OpSend, N: b}, {Op: impl.OpJump, N: 1}}
	progs[b] = []impl.Ins{{Op: impl.OpTake, R: 2, N: a}, {Op: impl.OpJump}}
	s := wantNew(progs...)
	play(&s, a, 0)
	for range sent {
		if len(s.Ways[n*a+b]) == 12 {
			play(&s, b, 0)
			play(&s, b, 0)
		}
		for range 3 {
			play(&s, a, 0)
		}
	}
	for len(s.Hist[b]) < 2*taken {
		play(&s, b, 0)
	}
	if len(s.Hist[a]) != 3*sent+1 || len(s.Hist[b]) != 2*taken {
		t.Fatalf("it has not come to that: %+v", s)
	}
	return s
}

// holdRoom holds of a cut of flow with one number too many that just the last send makes it so, and that one more take makes room, if there is one.
func holdRoom(t *testing.T, s impl.Sys, cut []int, a, b int, more bool) {
	t.Helper()
	for _, c := range []struct {
		sender, taker int
		want          bool
	}{{-1, 0, false}, {-2, 0, true}, {0, 1, true}, {-2, 1, true}} {
		other := slices.Clone(cut)
		other[a], other[b] = other[a]+c.sender, other[b]+c.taker
		if _, ok := impl.At(s, other); ok != c.want && (more || c.taker == 0) {
			t.Fatalf("At of %v is %v", other, ok)
		}
	}
}

func TestWaysAtACutMetAndPassed(t *testing.T) {
	for n := 2; n <= 4; n++ {
		for way := range n * n {
			a, b := way/n, way%n
			if a == b {
				continue
			}
			s := flow(t, n, a, b, 30, 20)
			tell := tellingOf(s)
			for sent := 0; sent <= 30; sent++ {
				for _, taken := range []int{0, 1, 7, 17, 18, 20} {
					if taken > sent {
						continue
					}
					cut := make([]int, n)
					cut[a], cut[b] = 3*sent+1, 2*taken
					got, ok := impl.At(s, cut)
					if ok != (sent-taken <= 12) || !impl.Whole(s, cut) {
						t.Fatalf("At with %d sent from %d to %d and %d taken is %v", sent, a, b, taken, ok)
					}
					holdCut(t, "so many on a way", tell, cut)
					// The numbers are those behind what was taken, in order.
					for k, x := range impl.WayOf(got, a, b) {
						if len(impl.WayOf(got, a, b)) != sent-taken || x != (impl.Item{V: taken + 1 + k}) {
							t.Fatalf("%d sent, %d taken: %+v", sent, taken, got)
						}
					}
					if sent-taken == 13 {
						holdRoom(t, s, cut, a, b, taken < 20)
					}
				}
			}
		}
	}
}

// toOneself is n of which p sent to itself fourteen times and then took eight times. What is right is asked only how much is on its ways now: on the way to oneself more may have been earlier.
func toOneself(t *testing.T, n, p int) impl.Sys {
	t.Helper()
	progs := slices.Repeat([][]impl.Ins{program(t, "end")}, n)
	progs[p] = slices.Concat(slices.Repeat([]impl.Ins{{Op: impl.OpSend, N: p}}, 14), slices.Repeat([]impl.Ins{{Op: impl.OpTake, N: p}}, 8), program(t, "end"))
	s := wantNew(progs...)
	s.Hist[p] = slices.Concat(slices.Repeat([]impl.Event{{Kind: impl.EvSend, Peer: p}}, 14), slices.Repeat([]impl.Event{{Kind: impl.EvTake, Peer: p}}, 8))
	s.States[p].At = 22
	s.Ways[n*p+p] = make([]impl.Item, 6)
	holdSys(t, "now it is right", s, true)
	return s
}

func TestTheWayToOneselfAtACut(t *testing.T) {
	for n := 1; n <= 4; n++ {
		for p := range n {
			s := toOneself(t, n, p)
			for k := range 23 {
				cut := make([]int, n)
				cut[p] = k
				on := k
				if k > 14 {
					on = 28 - k
				}
				got, ok := impl.At(s, cut)
				if ok != (on <= 12) || ok && len(impl.WayOf(got, p, p)) != on || !ok && !isZeroSys(got) || !impl.Whole(s, cut) {
					t.Errorf("At behind %d events is %+v, %v", k, got, ok)
				}
				holdCut(t, "to oneself", tellingOf(s), cut)
			}
		}
	}
}

// One way that is too long is enough, wherever all others are empty or full.
func TestOneWayTooLong(t *testing.T) {
	progs := [][]impl.Ins{program(t, "set 1 7", "send 1 1", "send 2 1", "jump 1"), program(t, "take 0 0", "jump 0"), program(t, "take 0 0", "jump 0")}
	s := wantNew(progs...)
	for range 90 {
		for p := range 3 {
			play(&s, p, 0)
		}
	}
	for k := range 26 {
		for took := range 7 {
			first, second := (k+1)/2, k/2
			cut := []int{1 + 3*(k/2) + k%2, 2 * took, 2 * (6 - took)}
			if first < took || second < 6-took {
				continue
			}
			_, ok := impl.At(s, cut)
			if ok != (first-took <= 12 && second-(6-took) <= 12) {
				t.Errorf("At of %v is %v", cut, ok)
			}
			holdCut(t, "two ways", tellingOf(s), cut)
		}
	}
}

// Each moment of a run is a whole cut of what comes of it, and the system was as At tells.
func TestEachMomentIsAWholeCut(t *testing.T) {
	r := rand.New(rand.NewSource(34))
	moments := 0
	for range 60 {
		s := someChat(r, 0)
		n := len(s.Progs)
		was := []impl.Sys{s}
		for range 120 {
			if after, code := impl.Step(s, r.Intn(n), r.Intn(n)); code == impl.RsDone {
				s = after
				was = append(was, s)
			}
		}
		for _, then := range was {
			cut := impl.Full(then)
			got, ok := impl.At(s, cut)
			if !impl.Whole(s, cut) || !slices.Equal(impl.Close(s, cut), cut) || !ok || !sameSys(got, then) {
				t.Fatalf("At(%+v, %v) is %+v, %v, not %+v", s, cut, got, ok, then)
			}
			moments++
		}
	}
	if moments < 2000 {
		t.Error("few:", moments)
	}
}

// At a cut within a cut it is the same as at it from the beginning; and from there on all the rest can be done again.
func TestAtACutOfWhatIsAtACut(t *testing.T) {
	r := rand.New(rand.NewSource(35))
	nested, again := 0, 0
	for range 400 {
		s := someChat(r, r.Intn(80))
		outer := impl.Close(s, someCut(r, s))
		then, ok := impl.At(s, outer)
		if !ok {
			continue
		}
		if !slices.Equal(impl.Full(then), outer) {
			t.Fatalf("At of %v has %v", outer, impl.Full(then))
		}
		for range 4 {
			cut := someCut(r, then)
			if !slices.Equal(impl.Close(then, cut), impl.Close(s, cut)) || impl.Whole(then, cut) != impl.Whole(s, cut) {
				t.Fatalf("%v is another cut of %+v than of %+v", cut, then, s)
			}
			inner := impl.Close(s, cut)
			one, first := impl.At(then, inner)
			other, second := impl.At(s, inner)
			if first != second || !sameSys(one, other) {
				t.Fatalf("at %v of what is at %v: %+v, %v, not %+v, %v", inner, outer, one, first, other, second)
			}
			nested++
		}
		if goesOn(then, s) {
			again++
		}
	}
	if nested < 1200 || again < 250 {
		t.Error("few:", nested, again)
	}
}

// goesOn does what is behind the events of s, as far as it can come, and tells whether it comes to what all came to.
func goesOn(s, all impl.Sys) bool {
	for more := true; more; {
		more = false
		for p, list := range all.Hist {
			if k := len(s.Hist[p]); k < len(list) && play(&s, p, list[k].Peer) {
				more = true
			}
		}
	}
	return sameSys(s, noMarks(all))
}

func TestCutsByChance(t *testing.T) {
	r := rand.New(rand.NewSource(36))
	seen := map[string]int{}
	for range 2000 {
		s := someChat(r, r.Intn(120))
		if r.Intn(3) == 0 {
			s = someSys(r, r.Intn(150))
		}
		if r.Intn(6) == 0 {
			someTurn(r, &s)
		}
		tell := tellingOf(s)
		for range 4 {
			cut := someCut(r, s)
			switch r.Intn(12) {
			case 0:
				cut[r.Intn(len(cut))] = wild()[r.Intn(len(wild()))]
			case 1:
				cut = cut[:r.Intn(len(cut)+1)]
			case 2:
				cut = append(cut, r.Intn(2))
			}
			_, at := tell.at(cut)
			switch whole := holdCut(t, "by chance", tell, cut); {
			case at:
				seen["at"]++
			case whole:
				seen["too much on a way"]++
			case tell.isCut(cut):
				seen["not whole"]++
			default:
				seen["no cut"]++
			}
		}
		want := counts(s)
		if !tell.right {
			want = nil
		}
		if got := impl.Full(s); !slices.Equal(got, want) {
			t.Fatalf("Full(%+v) is %v", s, got)
		}
	}
	if seen["at"] < 1000 || seen["not whole"] < 1000 || seen["no cut"] < 1000 {
		t.Error("few:", seen)
	}
}

// roomyCut is a cut with room behind it, and a function that tells whether all is as it was.
func roomyCut(cut []int) ([]int, func() bool) {
	room := append(slices.Clone(cut), -81, -82, -83)
	kept := slices.Clone(room)
	return room[:len(cut)], func() bool { return slices.Equal(room, kept) }
}

// holdAlone holds, of s and a cut as they are laid out, that same tells no change, and that no answer shares anything.
func holdAlone(t *testing.T, tell telling, s impl.Sys, cut []int, same func() bool) {
	t.Helper()
	given := slices.Clone(cut)
	if impl.CutOk(s, cut) != tell.isCut(given) || impl.Whole(s, cut) != tell.whole(given) || !same() {
		t.Fatalf("CutOk or Whole of %v wrote into it: %+v", given, tell.s)
	}
	closed, closedAgain := impl.Close(s, cut), impl.Close(s, cut)
	overwrite(closed)
	if !same() || !slices.Equal(closedAgain, tell.closed(given)) {
		t.Fatalf("Close of %v is shared, or wrote into it: %+v", given, tell.s)
	}
	full, fullAgain := impl.Full(s), impl.Full(s)
	overwrite(full)
	if !same() || len(fullAgain) > 0 && !slices.Equal(fullAgain, counts(tell.s)) {
		t.Fatalf("Full is shared, or wrote into it: %+v", tell.s)
	}
	then, _ := impl.At(s, cut)
	thenAgain, _ := impl.At(s, cut)
	want, _ := tell.at(given)
	if !same() || !sameSys(then, want) {
		t.Fatalf("At of %v is not as it was told, or wrote into it: %+v", given, tell.s)
	}
	holdApart(t, then)
	if !same() || !sameSys(thenAgain, want) {
		t.Fatalf("At of %v is shared: %+v", given, tell.s)
	}
}

func TestCutsWriteIntoNothingAndShareNothing(t *testing.T) {
	r := rand.New(rand.NewSource(37))
	for _, from := range append(stepSystems(t), talk(t), chain(t, []int{3, 2, 1, 0}, 1), flow(t, 2, 0, 1, 20, 10)) {
		tell := tellingOf(from)
		cuts := [][]int{nil, make([]int, len(from.Hist)), counts(from), append(counts(from), 0), someCut(r, from), someCut(r, from), tell.closed(someCut(r, from))}
		for _, given := range layings(from) {
			for _, list := range cuts {
				s, same := given()
				cut, sameCut := roomyCut(list)
				holdAlone(t, tell, s, cut, func() bool { return same() && sameCut() })
			}
		}
	}
}

// A cut may be a piece of the system itself.
func TestCutsThatAreAPieceOfTheSystem(t *testing.T) {
	progs := [][]impl.Ins{program(t, "send 1 0", "send 1 0", "set 1 4", "end"), program(t, "set 0 1", "set 1 4", "print 0", "print 1", "take 3 0", "take 3 0", "end")}
	s := played(t, progs, 0, 0, 0, 0, 1, 1, 1, 1, 1, 1, 1)
	tell := tellingOf(s)
	if !slices.Equal(s.States[1].Regs, []int{1, 4, 0, 0}) || !tell.whole([]int{1, 4}) {
		t.Fatalf("%+v", s)
	}
	for _, given := range layings(s) {
		for p := range 2 {
			s, same := given()
			holdAlone(t, tell, s, s.States[p].Regs[:2], same)
			holdAlone(t, tell, s, s.States[p].Out, same)
		}
	}
	// One that is not whole: 1 event of the first, and 7 of the second.
	other := but(s, func(s *impl.Sys) {
		s.Progs[1][1].N, s.States[1].Regs[1] = 7, 7
		s.Hist[1][3].V, s.States[1].Out[1] = 7, 7
	})
	told := tellingOf(other)
	if got := impl.Close(other, other.States[1].Out); !slices.Equal(got, []int{1, 5}) || !sameSys(other, told.s) {
		t.Errorf("Close is %v", got)
	}
	for _, given := range layings(other) {
		s, same := given()
		holdAlone(t, told, s, s.States[1].Regs[:2], same)
		holdAlone(t, told, s, s.States[1].Out, same)
	}
}

// What was told stays what it was, whatever becomes of the system and of the cut.
func TestCutsAreKept(t *testing.T) {
	s := talk(t)
	tell, cut := tellingOf(cloneSys(s)), []int{5, 5, 4}
	closed, full := impl.Close(s, cut), impl.Full(s)
	want, _ := tell.at(tell.closed(cut))
	at, ok := impl.At(s, closed)
	holdApart(t, s)
	overwrite(cut)
	if !ok || !slices.Equal(closed, tell.closed([]int{5, 5, 4})) || !slices.Equal(full, []int{8, 5, 4}) || !sameSys(at, want) {
		t.Errorf("%v, %v, %+v", closed, full, at)
	}
}

// One list in several places of the argument comes out as several.
func TestCutsTellApartWhatIsOne(t *testing.T) {
	for n := 1; n <= 4; n++ {
		list := program(t, "set 0 0", "print 0", "jump 0")
		events := append(make([]impl.Event, 0, 9), local(), impl.Event{Kind: impl.EvPrint}, local())
		regs, out, marks := make([]int, 4, 9), make([]int, 1, 9), append(make([]impl.Item, 0, 9), impl.Item{Mark: true})
		s := impl.Sys{Progs: slices.Repeat([][]impl.Ins{list}, n), States: slices.Repeat([]impl.State{{Regs: regs, Out: out}}, n),
			Ways: slices.Repeat([][]impl.Item{marks}, n*n), Hist: slices.Repeat([][]impl.Event{events}, n)}
		kept := cloneSys(s)
		for k := range 4 {
			got, ok := impl.At(s, many(n, k))
			if !ok || len(got.Hist[n-1]) != k {
				t.Fatalf("At is %+v, %v", got, ok)
			}
			for p := range n {
				got.Hist[p] = append(got.Hist[p], impl.Event{Kind: 7, V: p})
			}
			for i := range got.Ways {
				got.Ways[i] = append(got.Ways[i], impl.Item{V: i})
			}
			holdApart(t, got)
			if !sameSys(s, kept) || marks[:2][1] != (impl.Item{}) || events[:4][3] != (impl.Event{}) || !slices.Equal(regs[:9], make([]int, 9)) || !slices.Equal(out[:9], make([]int, 9)) {
				t.Fatalf("it was written into: %+v", s)
			}
		}
	}
}
