package tests

import (
	"math"
	"math/rand"
	"slices"
	"testing"

	"loop.example/g00196/impl"
)

// future is event k of p, the one behind it, the take of what it sent, those behind these and their takes, and so on.
func (tell telling) future(p, k int) map[one]bool {
	takes := map[one]one{}
	for take, from := range tell.senders {
		takes[from] = take
	}
	gone := map[one]bool{}
	for open := []one{{p, k}}; len(open) > 0; open = open[1:] {
		x := open[0]
		if !tell.has(x) || gone[x] {
			continue
		}
		gone[x] = true
		open = append(open, one{x.p, x.i + 1})
		if take, ok := takes[x]; ok {
			open = append(open, take)
		}
	}
	return gone
}

// lost is how many events of each are in the future of event k of p.
func (tell telling) lost(p, k int) []int {
	list := make([]int, len(tell.s.Hist))
	for x := range tell.future(p, k) {
		list[x.p]++
	}
	return list
}

// back tells chapter 9 once more, by what comes of an event instead of by cuts that are closed.
func (tell telling) back(p, k int) (impl.Sys, int) {
	switch {
	case !tell.right:
		return impl.Sys{}, 1
	case p < 0 || p >= len(tell.s.Hist) || k < 0 || k > len(tell.s.Hist[p]):
		return tell.s, 2
	}
	cut := counts(tell.s)
	for q, n := range tell.lost(p, k) {
		cut[q] -= n
	}
	then, ok := tell.at(cut)
	if !ok {
		return tell.s, 3
	}
	return then, 0
}

func wantForth(s, other impl.Sys) bool {
	if !wantSysOk(s) || !wantSysOk(other) || !sameLists(s.Progs, other.Progs) {
		return false
	}
	for p, events := range s.Hist {
		if len(events) > len(other.Hist[p]) || !slices.Equal(events, other.Hist[p][:len(events)]) {
			return false
		}
	}
	return true
}

func holdForth(t *testing.T, what string, s, other impl.Sys, want bool) {
	t.Helper()
	if told := wantForth(s, other); told != want {
		t.Fatalf("%s: told once more it is %v: %+v, %+v", what, told, s, other)
	}
	if got := impl.Forth(s, other); got != want {
		t.Errorf("%s: Forth(%+v, %+v) is %v", what, s, other, got)
	}
}

// holdBack holds Back, Undone and, where that is the same, BackOne against what is told once more, and answers the system and the code.
func holdBack(t *testing.T, what string, tell telling, p, k int) (impl.Sys, int) {
	t.Helper()
	s := tell.s
	want, code := tell.back(p, k)
	got, how := impl.Back(s, p, k)
	if how != code || !sameSys(got, want) {
		t.Fatalf("%s: Back(%+v, %d, %d) is %+v, %d, not %+v, %d", what, s, p, k, got, how, want, code)
	}
	gone := []int{}
	if code == impl.BkDone {
		gone = tell.lost(p, k)
		holdTakenBack(t, what, s, got, p, k)
	}
	if undone := impl.Undone(s, p, k); !slices.Equal(undone, gone) {
		t.Fatalf("%s: Undone(%+v, %d, %d) is %v, not %v", what, s, p, k, undone, gone)
	}
	if p < 0 || p >= len(s.Hist) || k == len(s.Hist[p])-1 {
		if got, how := impl.BackOne(s, p); how != code || !sameSys(got, want) {
			t.Fatalf("%s: BackOne(%+v, %d) is %+v, %d, not %+v, %d", what, s, p, got, how, want, code)
		}
	}
	return got, how
}

// holdTakenBack holds what the document says of a system that was taken back to k events of p.
func holdTakenBack(t *testing.T, what string, s, then impl.Sys, p, k int) {
	t.Helper()
	cut := impl.Full(s)
	cut[p] = k
	closed := impl.Close(s, cut)
	at, ok := impl.At(s, closed)
	if !ok || !sameSys(then, at) || !slices.Equal(impl.Full(then), closed) {
		t.Fatalf("%s: back to %d of %d is %+v, and not what is at %v of %+v", what, k, p, then, closed, s)
	}
	if !impl.SysOk(then) || !sameLists(then.Progs, s.Progs) || !sameSys(then, noMarks(then)) {
		t.Fatalf("%s: back to %d of %d it is not right: %+v", what, k, p, then)
	}
	// What was right has no event that hangs on a later one of its process, so that of p all ahead of k stays.
	if len(then.Hist[p]) != k {
		t.Fatalf("%s: back to %d of %d it has %v", what, k, p, counts(then))
	}
	holdForth(t, what, then, s, true)
	holdForth(t, what, s, then, slices.Equal(counts(s), counts(then)))
}

// holdUndone holds that back to k of p is done, and how many events of each are gone.
func holdUndone(t *testing.T, what string, s impl.Sys, p, k int, want ...int) impl.Sys {
	t.Helper()
	then, how := holdBack(t, what, tellingOf(s), p, k)
	if got := impl.Undone(s, p, k); how != impl.BkDone || !slices.Equal(got, want) {
		t.Errorf("%s: Undone(%+v, %d, %d) is %v, not %v", what, s, p, k, got, want)
	}
	return then
}

// holdStays holds that it is not taken back, and why.
func holdStays(t *testing.T, what string, s impl.Sys, p, k, code int) {
	t.Helper()
	kept := cloneSys(s)
	got, how := impl.Back(s, p, k)
	if how != code || !sameSys(got, kept) || len(impl.Undone(s, p, k)) != 0 {
		t.Errorf("%s: Back(%+v, %d, %d) is %+v, %d, and Undone %v", what, s, p, k, got, how, impl.Undone(s, p, k))
	}
}

// marked is s with a mark on each way that has room for it, ahead of all numbers or behind them.
func marked(s impl.Sys) impl.Sys {
	return but(s, func(s *impl.Sys) {
		for i, way := range s.Ways {
			if len(way) < 12 {
				s.Ways[i] = slices.Insert(way, (i%2)*len(way), impl.Item{Mark: true})
			}
		}
	})
}

func TestCodesOfBack(t *testing.T) {
	if impl.BkDone != 0 || impl.BkBad != 1 || impl.BkNone != 2 || impl.BkFull != 3 {
		t.Error(impl.BkDone, impl.BkBad, impl.BkNone, impl.BkFull)
	}
}

func TestNoWayBackOfWhatIsNotRight(t *testing.T) {
	right := []impl.Sys{talk(t), underWay(t), wantNew(program(t, "end")), wantNew(pair(t)...)}
	for _, s := range append(wrongSystems(t), wrongInOne(t)...) {
		for _, p := range append(wild(), 2, 3, len(s.Hist), -2) {
			places := append(wild(), 2, 3)
			if p >= 0 && p < len(s.Hist) {
				places = append(places, len(s.Hist[p])-1, len(s.Hist[p]), len(s.Hist[p])+1)
			}
			for _, k := range places {
				if got, how := impl.Back(s, p, k); how != impl.BkBad || !isZeroSys(got) || len(impl.Undone(s, p, k)) != 0 {
					t.Fatalf("Back(%+v, %d, %d) is %+v, %d, and Undone %v", s, p, k, got, how, impl.Undone(s, p, k))
				}
			}
			if got, how := impl.BackOne(s, p); how != impl.BkBad || !isZeroSys(got) {
				t.Fatalf("BackOne(%+v, %d) is %+v, %d", s, p, got, how)
			}
		}
		holdForth(t, "itself", s, s, false)
		for _, other := range slices.Concat(right, wrongInOne(t), []impl.Sys{{}}) {
			holdForth(t, "the one", s, other, false)
			holdForth(t, "the other one", other, s, false)
		}
	}
	// The only thing that is wrong is a state, of which Forth asks nothing else.
	s := talk(t)
	wrong := but(s, func(s *impl.Sys) { s.States[1].Regs[3]++ })
	holdForth(t, "both are right", s, s, true)
	holdForth(t, "the one is wrong", wrong, s, false)
	holdForth(t, "the other one is wrong", s, wrong, false)
	holdForth(t, "both are wrong", wrong, wrong, false)
}

func TestNoWayBackOfProcessesThatThereAreNot(t *testing.T) {
	for n := 1; n <= 4; n++ {
		for _, s := range []impl.Sys{stairs(t, n), marked(stairs(t, n)), marked(ring(n, 3, 0))} {
			for _, p := range append(wild(), -n, -2, n, n+1, 2*n, 200, 201) {
				if p >= 0 && p < n {
					continue
				}
				for _, k := range append(wild(), 2, 3, 200) {
					holdStays(t, "no process", s, p, k, impl.BkNone)
				}
				if got, how := impl.BackOne(s, p); how != impl.BkNone || !sameSys(got, s) {
					t.Errorf("BackOne(%+v, %d) is %+v, %d", s, p, got, how)
				}
			}
		}
	}
}

func TestNoWayBackToNumbersThatAreNone(t *testing.T) {
	for n := 1; n <= 4; n++ {
		for _, s := range []impl.Sys{stairs(t, n), marked(stairs(t, n)), marked(ring(n, 3, 0)), worn(t, n, n-1, 200, "end")} {
			tell := tellingOf(s)
			for p, most := range counts(s) {
				for _, k := range append(wild(), -most, -2, -1, 0, most-1, most, most+1, most+2, 199, 200, 201) {
					if k < 0 || k > most {
						holdStays(t, "no number", s, p, k, impl.BkNone)
					}
					if _, how := holdBack(t, "a number or none", tell, p, k); (how == impl.BkDone) != (k >= 0 && k <= most) {
						t.Errorf("Back to %d of %d is %d", k, most, how)
					}
				}
			}
		}
	}
}

// Whoever has more, it is asked how many that one had.
func TestHowManyOfWhomAreAsked(t *testing.T) {
	s := stairs(t, 4)
	for p, most := range []int{6, 4, 2, 0} {
		for k := range 8 {
			if _, how := impl.Back(s, p, k); (how == impl.BkDone) != (k <= most) {
				t.Errorf("Back to %d of %d, which had %d, is %d", k, p, most, how)
			}
		}
	}
}

func TestBackToAsManyAsThereWere(t *testing.T) {
	r := rand.New(rand.NewSource(38))
	list := []impl.Sys{wantNew(pair(t)...), underWay(t), talk(t), sends(t, 12, 0), sends(t, 4, 3), sends(t, 0, 12), ring(4, 30, 2), worn(t, 2, 1, 200, "end"), stairs(t, 4), flow(t, 3, 2, 0, 30, 18)}
	for range 150 {
		list = append(list, someSys(r, r.Intn(150)))
	}
	marks := 0
	for _, s := range list {
		for p, most := range counts(s) {
			then := holdUndone(t, "as many as it had", s, p, most, make([]int, len(s.Hist))...)
			if !sameSys(then, noMarks(s)) {
				t.Errorf("Back(%+v, %d, %d) is %+v", s, p, most, then)
			}
		}
		if !sameSys(s, noMarks(s)) {
			marks++
		}
	}
	if marks < 30 {
		t.Error("few had marks:", marks)
	}
}

func TestBackSpelledOut(t *testing.T) {
	// The first sends by its events 1, 3 and 5 and takes by its event 6; the second takes, sends, takes.
	s := marked(played(t, pair(t), 0, 0, 0, 0, 1, 1, 1, 0, 0, 0, 0, 0))
	want := [][]int{{9, 3}, {8, 3}, {7, 1}, {6, 1}, {5, 0}, {4, 0}, {3, 0}, {2, 0}, {1, 0}, {0, 0}}
	for k, gone := range want {
		holdUndone(t, "of the first", s, 0, k, gone...)
	}
	for k, gone := range [][]int{{3, 3}, {3, 2}, {0, 1}, {0, 0}} {
		holdUndone(t, "of the second", s, 1, k, gone...)
	}
	is := func(p, k int, list ...int) {
		t.Helper()
		if got, how := impl.Back(s, p, k); how != impl.BkDone || !sameSys(got, played(t, pair(t), list...)) {
			t.Errorf("Back to %d of %d is %+v, %d", k, p, got, how)
		}
	}
	is(0, 0)
	is(0, 1, 0)
	is(0, 2, 0, 0, 1, 1)
	is(0, 3, 0, 0, 0, 1, 1)
	is(0, 6, 0, 0, 0, 0, 0, 0, 1, 1, 1)
	is(0, 8, 0, 0, 0, 0, 0, 0, 1, 1, 1, 0, 0)
	is(1, 0, 0, 0, 0, 0, 0, 0)
	is(1, 1, 0, 0, 0, 0, 0, 0, 1)
	is(1, 2, 0, 0, 0, 0, 0, 0, 1, 1, 0, 0, 0)
	got, _ := impl.Back(s, 1, 1)
	if way := impl.WayOf(got, 0, 1); !slices.Equal(way, []impl.Item{{V: 6}, {V: 7}}) || len(impl.WayOf(got, 1, 0)) != 0 || got.States[0].At != 6 || got.States[1].Regs[0] != 5 {
		t.Errorf("%+v", got)
	}
}

// What ended, went wrong, or printed, is as it was ahead of that.
func TestBackAheadOfTheEnd(t *testing.T) {
	progs := [][]impl.Ins{program(t, "set 0 40000", "print 0", "mul 0 0 0", "end"), program(t, "set 1 7", "print 1", "print 1", "end"), program(t, "set 2 5")}
	s := played(t, progs, 0, 0, 0, 1, 1, 1, 1, 2)
	for p, most := range []int{3, 4, 1} {
		for k := range most + 1 {
			list := []int{3, 4, 1}
			list[p] = k
			gone := []int{0, 0, 0}
			gone[p] = most - k
			then := holdUndone(t, "ahead of the end", s, p, k, gone...)
			if !sameSys(then, played(t, progs, slices.Concat(many(list[0], 0), many(list[1], 1), many(list[2], 2))...)) {
				t.Errorf("Back to %d of %d is %+v", k, p, then)
			}
		}
	}
}

func TestBackToEachNumber(t *testing.T) {
	list := []impl.Sys{wantNew(pair(t)...), underWay(t), talk(t), sends(t, 12, 0), sends(t, 4, 3), ring(4, 4, 2), ring(3, 5, 3), stairs(t, 4), crowd(t), worn(t, 2, 1, 30, "end"), flow(t, 3, 1, 2, 14, 2)}
	for _, order := range orders() {
		list = append(list, chain(t, order, 1))
	}
	done := 0
	for _, from := range list {
		for _, s := range []impl.Sys{from, marked(from)} {
			tell := tellingOf(s)
			for p, most := range counts(s) {
				for k := range most + 1 {
					if _, how := holdBack(t, "each number", tell, p, k); how == impl.BkDone {
						done++
					}
				}
				holdStays(t, "one more", s, p, most+1, impl.BkNone)
				holdStays(t, "one less than nothing", s, p, -1, impl.BkNone)
			}
		}
	}
	if done < 1000 {
		t.Error("few:", done)
	}
}

// What is gone of one makes the next lose its take, and what it sent behind it, whatever the order in which the four are numbered.
func TestWhatIsGoneThroughOthers(t *testing.T) {
	for _, order := range orders() {
		for ahead := range 3 {
			s := chain(t, order, ahead)
			for from, p := range order {
				most := len(s.Hist[p])
				sent := ahead + 1
				if from == 0 {
					sent = ahead
				}
				for k := range most + 1 {
					want := make([]int, 4)
					want[p] = most - k
					for _, q := range order[from+1:] {
						if k <= sent {
							want[q] = len(s.Hist[q]) - ahead
						}
					}
					holdUndone(t, "a chain", s, p, k, want...)
				}
			}
		}
	}
}

// threes is each order of 0, 1 and 2.
func threes() [][]int {
	return [][]int{{0, 1, 2}, {0, 2, 1}, {1, 0, 2}, {1, 2, 0}, {2, 0, 1}, {2, 1, 0}}
}

// roundTrip is three that send a number round from p, in an order, so many times; p prints what comes home, each other one counts it up.
func roundTrip(t *testing.T, order []int, rounds int) impl.Sys {
	t.Helper()
	p, q, r := order[0], order[1], order[2]
	progs := make([][]impl.Ins, 3)
	progs[p] = []impl.Ins{{Op: impl.OpSend, N: q}, {Op: impl.OpTake, N: r}, {Op: impl.OpPrint}, {Op: impl.OpJump}}
	progs[q] = []impl.Ins{{Op: impl.OpSet, R: 1, N: 1}, {Op: impl.OpTake, N: p}, {Op: impl.OpAdd, B: 1}, {Op: impl.OpSend, N: r}, {Op: impl.OpJump, N: 1}}
	progs[r] = []impl.Ins{{Op: impl.OpSet, R: 1, N: 1}, {Op: impl.OpTake, N: q}, {Op: impl.OpAdd, B: 1}, {Op: impl.OpSend, N: p}, {Op: impl.OpJump, N: 1}}
	s := wantNew(progs...)
	play(&s, q, 0)
	play(&s, r, 0)
	for range rounds {
		for _, who := range []int{p, q, q, q, q, r, r, r, r, p, p, p} {
			if !play(&s, who, 0) {
				t.Fatalf("it can't come: %+v", s)
			}
		}
	}
	return s
}

// What is gone comes, through a second and a third, back to p; there it meets only what was taken back already.
func TestWhatIsGoneComesHome(t *testing.T) {
	for _, order := range threes() {
		p, q, r := order[0], order[1], order[2]
		s := roundTrip(t, order, 6)
		list := func(first, second, third int) []int {
			cut := make([]int, 3)
			cut[p], cut[q], cut[r] = first, second, third
			return cut
		}
		for k := range 25 {
			// So many rounds had their send.
			sent := (k + 3) / 4
			holdUndone(t, "of the one that begins", s, p, k, list(24-k, 24-4*sent, 24-4*sent)...)
			then, _ := impl.Back(s, p, k)
			if got := impl.Printed(then, p); len(got) != (k+1)/4 {
				t.Errorf("it printed %v", got)
			}
			if k%4 == 1 && sent < 6 {
				// The second and third went ahead of what p took back: their number is on its way home.
				if way := impl.WayOf(then, r, p); !slices.Equal(way, []impl.Item{{V: 2 * sent}}) {
					t.Errorf("on the way home is %v", way)
				}
			}
		}
		for k := range 26 {
			// Of the second so many sends stay, and p takes what comes of them.
			sent := k / 4
			first, third := 4*sent+1, 4*sent+1
			if sent == 6 {
				first, third = 24, 25
			}
			holdUndone(t, "of the second", s, q, k, list(24-min(first, 24), 25-k, 25-third)...)
		}
		for k := range 26 {
			sent := k / 4
			first, second := 4*sent+1, 4*sent+5
			holdUndone(t, "of the third", s, r, k, list(24-min(first, 24), 25-min(second, 25), 25-k)...)
		}
	}
}

// An event that hangs on a later one of its own process is in no system that is right: there is no way back then.
func TestNoWayBackInACircle(t *testing.T) {
	for _, order := range threes() {
		progs, hist := make([][]impl.Ins, 3), make([][]impl.Event, 3)
		for k, p := range order {
			from, to := order[(k+2)%3], order[(k+1)%3]
			progs[p] = []impl.Ins{{Op: impl.OpTake, N: from}, {Op: impl.OpSend, N: to}, {Op: impl.OpEnd}}
			hist[p] = []impl.Event{{Kind: impl.EvTake, Peer: from}, {Kind: impl.EvSend, Peer: to}}
		}
		s := wantNew(progs...)
		s.Hist = hist
		for p := range s.States {
			s.States[p].At = 2
		}
		holdSys(t, "a circle", s, false)
		for p := range 3 {
			for k := range 4 {
				if got, how := impl.Back(s, p, k); how != impl.BkBad || !isZeroSys(got) || len(impl.Undone(s, p, k)) != 0 {
					t.Errorf("Back in a circle is %+v, %d", got, how)
				}
			}
		}
	}
}

func TestBackWithWaysMetAndPassed(t *testing.T) {
	codes := [4]int{}
	for n := 2; n <= 4; n++ {
		for way := range n * n {
			a, b := way/n, way%n
			if a == b {
				continue
			}
			for _, from := range []impl.Sys{flow(t, n, a, b, 30, 20), marked(flow(t, n, a, b, 30, 18))} {
				most := len(from.Hist[b])
				for k := range most + 1 {
					// The first of two events takes.
					on, code := 30-(k+1)/2, impl.BkDone
					if on > 12 {
						code = impl.BkFull
						holdStays(t, "too much on a way", from, b, k, impl.BkFull)
					}
					got, how := impl.Back(from, b, k)
					if how != code || how == impl.BkDone && len(impl.WayOf(got, a, b)) != on {
						t.Fatalf("Back to %d of %d, with %d on the way then, is %+v, %d", k, b, on, got, how)
					}
					if k == most || on < 15 {
						holdBack(t, "so much on a way", tellingOf(from), b, k)
					}
					codes[how]++
				}
				// Of the one that sends any number will do: what it took back nobody can have taken.
				for k := 0; k <= 91; k += 7 {
					if _, how := holdBack(t, "of the sender", tellingOf(from), a, k); how != impl.BkDone {
						t.Errorf("Back to %d of %d is %d", k, a, how)
					}
				}
			}
		}
	}
	if codes[impl.BkDone] < 100 || codes[impl.BkFull] < 100 {
		t.Error("few:", codes)
	}
}

// gate is three of which b takes from c once and then from a, so that its takes are gone with the send of c; a sent so many numbers.
func gate(t *testing.T, order []int, sent int) impl.Sys {
	t.Helper()
	a, b, c := order[0], order[1], order[2]
	progs := make([][]impl.Ins, 3)
	progs[a] = []impl.Ins{{Op: impl.OpSend, N: b}, {Op: impl.OpJump}}
	progs[b] = []impl.Ins{{Op: impl.OpTake, N: c}, {Op: impl.OpTake, N: a}, {Op: impl.OpJump, N: 1}}
	progs[c] = []impl.Ins{{Op: impl.OpSet, N: 4}, {Op: impl.OpSend, N: b}, {Op: impl.OpEnd}}
	s := wantNew(progs...)
	for _, p := range []int{c, c, c, b} {
		play(&s, p, 0)
	}
	for len(s.Hist[a]) < 2*sent {
		if !play(&s, a, 0) {
			play(&s, b, 0)
		}
	}
	return s
}

// The way that gets too full may be one between two others.
func TestBackFillsAWayOfOthers(t *testing.T) {
	for _, order := range threes() {
		a, b, c := order[0], order[1], order[2]
		for sent := 10; sent <= 24; sent++ {
			for _, s := range []impl.Sys{gate(t, order, sent), marked(gate(t, order, sent))} {
				for k := range 4 {
					code := impl.BkDone
					if k < 2 && sent > 12 {
						code = impl.BkFull
						holdStays(t, "a way of others", s, c, k, impl.BkFull)
					}
					got, how := holdBack(t, "a way of others", tellingOf(s), c, k)
					if how != code || k < 2 && how == impl.BkDone && (len(impl.WayOf(got, a, b)) != sent || len(got.Hist[b]) != 0) {
						t.Errorf("Back to %d of %d with %d sent is %+v, %d", k, c, sent, got, how)
					}
				}
				holdBack(t, "of the one that took", tellingOf(s), b, 0)
				holdBack(t, "of the one that took", tellingOf(s), b, 1)
			}
		}
	}
}

func TestBackFillsTheWayToOneself(t *testing.T) {
	for n := 1; n <= 4; n++ {
		for p := range n {
			s := toOneself(t, n, p)
			for k := range 23 {
				code := impl.BkDone
				if k == 13 || k == 14 || k == 15 {
					code = impl.BkFull
					holdStays(t, "to oneself", s, p, k, impl.BkFull)
				}
				if _, how := holdBack(t, "to oneself", tellingOf(s), p, k); how != code {
					t.Errorf("Back to %d is %d", k, how)
				}
			}
		}
	}
}

// Marks on a way are no more, so that they take no room from its numbers.
func TestBackDropsMarksAheadOfAsking(t *testing.T) {
	s := flow(t, 2, 0, 1, 13, 2)
	s = but(s, func(s *impl.Sys) { s.Ways[1] = append(s.Ways[1], impl.Item{Mark: true}) })
	if len(s.Ways[1]) != 12 {
		t.Fatalf("%+v", s)
	}
	// Eleven numbers and a mark are on it; of the takes one is gone.
	then := holdUndone(t, "twelve numbers", s, 1, 2, 0, 2)
	if len(impl.WayOf(then, 0, 1)) != 12 || len(impl.Numbers(impl.WayOf(then, 0, 1))) != 12 {
		t.Errorf("%+v", then)
	}
	holdStays(t, "thirteen numbers", s, 1, 0, impl.BkFull)
}

// holdOneBack holds BackOne of p, and answers what comes of it.
func holdOneBack(t *testing.T, what string, s impl.Sys, p, code int) impl.Sys {
	t.Helper()
	kept := cloneSys(s)
	got, how := impl.BackOne(s, p)
	want := kept
	switch code {
	case impl.BkDone:
		want, _ = tellingOf(kept).back(p, len(kept.Hist[p])-1)
	case impl.BkBad:
		want = impl.Sys{}
	}
	if how != code || !sameSys(got, want) {
		t.Errorf("%s: BackOne(%+v, %d) is %+v, %d", what, s, p, got, how)
	}
	return got
}

func TestBackByOne(t *testing.T) {
	for n := 1; n <= 4; n++ {
		for _, s := range []impl.Sys{stairs(t, n), marked(stairs(t, n))} {
			for p, most := range counts(s) {
				code := impl.BkDone
				if most == 0 {
					code = impl.BkNone
				}
				holdOneBack(t, "so many", s, p, code)
			}
			holdOneBack(t, "nobody", s, -1, impl.BkNone)
			holdOneBack(t, "one too far", s, n, impl.BkNone)
			holdOneBack(t, "far", s, math.MaxInt, impl.BkNone)
		}
		for p := range n {
			fresh := marked(wantNew(slices.Repeat([][]impl.Ins{program(t, "set 0 5", "end")}, n)...))
			holdOneBack(t, "no event", fresh, p, impl.BkNone)
			s := cloneSys(fresh)
			play(&s, p, 0)
			then := holdOneBack(t, "one event", s, p, impl.BkDone)
			if !sameSys(then, noMarks(fresh)) {
				t.Errorf("%+v", then)
			}
			holdOneBack(t, "no event any more", then, p, impl.BkNone)
			play(&s, p, 0)
			then = holdOneBack(t, "two events", s, p, impl.BkDone)
			if then.States[p].Code != impl.StRun || len(then.Hist[p]) != 1 {
				t.Errorf("%+v", then)
			}
			holdOneBack(t, "as many as can be", worn(t, n, p, 200, "end"), p, impl.BkDone)
		}
	}
	for _, s := range wrongSystems(t) {
		for _, p := range wild() {
			holdOneBack(t, "not right", s, p, impl.BkBad)
		}
	}
	// With twelve on the way the last one of the taker is its jump, and ahead of that its take.
	s := flow(t, 2, 0, 1, 14, 2)
	s = holdOneBack(t, "a jump", s, 1, impl.BkDone)
	holdOneBack(t, "a take that made room", s, 1, impl.BkFull)
	holdOneBack(t, "a take that made no room needed", flow(t, 2, 0, 1, 14, 3), 1, impl.BkDone)
}

// One by one all of p is taken back, and with it what hung on it, as in one go.
func TestBackOneByOne(t *testing.T) {
	r := rand.New(rand.NewSource(39))
	steps := 0
	for range 120 {
		s := someChat(r, r.Intn(60))
		p := r.Intn(len(s.Hist))
		then := s
		for k := len(s.Hist[p]) - 1; k >= 0; k-- {
			after, how := impl.BackOne(then, p)
			if how != impl.BkDone {
				break
			}
			want, code := impl.Back(s, p, k)
			if code != impl.BkDone || !sameSys(after, want) || len(after.Hist[p]) != k {
				t.Fatalf("one by one back to %d of %d: %+v, not %+v", k, p, after, want)
			}
			then = after
			steps++
		}
		if len(then.Hist[p]) == 0 {
			holdOneBack(t, "nothing is left", then, p, impl.BkNone)
		}
	}
	if steps < 500 {
		t.Error("few:", steps)
	}
}

func TestForthToItself(t *testing.T) {
	r := rand.New(rand.NewSource(40))
	list := []impl.Sys{wantNew(pair(t)...), underWay(t), talk(t), sends(t, 12, 0), ring(4, 30, 0), worn(t, 2, 1, 200, "end"), stairs(t, 4), marked(talk(t))}
	for range 60 {
		list = append(list, someSys(r, r.Intn(100)))
	}
	for _, s := range list {
		holdForth(t, "itself", s, s, true)
		holdForth(t, "another like it", s, cloneSys(s), true)
		holdForth(t, "with marks", s, marked(s), true)
		holdForth(t, "without them", marked(s), s, true)
		holdForth(t, "with other marks", marked(noMarks(s)), noMarks(s), true)
		holdForth(t, "from its beginning", wantNew(s.Progs...), s, true)
		holdForth(t, "to its beginning", s, wantNew(s.Progs...), events(s) == 0)
	}
}

func TestForthToMoreEventsAndFewer(t *testing.T) {
	s := played(t, pair(t), 0, 0, 0, 0, 1, 1, 1, 0, 0, 0, 0, 0)
	for _, c := range []struct {
		what string
		list []int
	}{{"one less of the first", []int{0, 0, 0, 0, 1, 1, 1, 0, 0, 0, 0}}, {"one less of the second", []int{0, 0, 0, 0, 1, 1, 0, 0, 0, 0, 0}}, {"half", []int{0, 0, 0, 0, 1}}, {"one event", []int{0}}} {
		then := played(t, pair(t), c.list...)
		holdForth(t, c.what, then, s, true)
		holdForth(t, c.what, s, then, false)
	}
	// Of two that each have more of one neither goes forth to the other.
	one, other := played(t, pair(t), 0, 0, 0), played(t, pair(t), 0, 0, 1)
	holdForth(t, "more of the first", one, other, false)
	holdForth(t, "more of the second", other, one, false)
	both := played(t, pair(t), 0, 0, 0, 1)
	holdForth(t, "to both", one, both, true)
	holdForth(t, "to both", other, both, true)
	holdForth(t, "from both", both, one, false)
	holdForth(t, "from both", both, other, false)
	// Events that differ in their order in time only are the same.
	holdForth(t, "in another order", played(t, pair(t), 0, 0, 1, 1, 0, 0), played(t, pair(t), 0, 0, 0, 0, 1, 1), true)
}

func TestForthOfOtherPrograms(t *testing.T) {
	progs := pair(t)
	s := played(t, progs, 0, 0, 1)
	change := func(what string, change func(progs [][]impl.Ins) [][]impl.Ins) {
		t.Helper()
		other := cloneSys(s)
		other.Progs = change(other.Progs)
		holdSys(t, what, other, true)
		holdForth(t, what, s, other, false)
		holdForth(t, what, other, s, false)
		holdForth(t, what, wantNew(progs...), other, false)
		holdForth(t, what, wantNew(progs...), wantNew(other.Progs...), false)
		holdForth(t, what, wantNew(other.Progs...), wantNew(progs...), false)
		holdForth(t, what, wantNew(other.Progs...), other, true)
	}
	change("the last place of the first", func(progs [][]impl.Ins) [][]impl.Ins {
		progs[0][8] = impl.Ins{Op: impl.OpJump, N: 3}
		return progs
	})
	change("the last place of the second", func(progs [][]impl.Ins) [][]impl.Ins {
		progs[1][3] = impl.Ins{Op: impl.OpPrint}
		return progs
	})
	change("a place between", func(progs [][]impl.Ins) [][]impl.Ins {
		progs[0][4].N = 8
		return progs
	})
	change("the first place, of which comes the same", func(progs [][]impl.Ins) [][]impl.Ins {
		progs[1][0].N = 0
		return progs
	})
	change("one place more", func(progs [][]impl.Ins) [][]impl.Ins {
		progs[1] = append(progs[1], impl.Ins{Op: impl.OpEnd})
		return progs
	})
	change("one place less", func(progs [][]impl.Ins) [][]impl.Ins {
		progs[0] = progs[0][:8]
		return progs
	})
}

func TestForthOfAnotherNumberOfProcesses(t *testing.T) {
	lines := program(t, "send 0 0", "set 1 1", "end")
	for n := 1; n <= 4; n++ {
		for m := 1; m <= 4; m++ {
			for _, steps := range []int{0, 1, 3} {
				one, other := wantNew(slices.Repeat([][]impl.Ins{lines}, n)...), wantNew(slices.Repeat([][]impl.Ins{lines}, m)...)
				for range steps {
					play(&one, 0, 0)
					play(&other, 0, 0)
				}
				holdForth(t, "so many", one, other, n == m)
			}
		}
	}
}

// takesFrom is four of which the last took from the others in an order; all numbers are alike, so that the events tell only from whom.
func takesFrom(t *testing.T, order ...int) impl.Sys {
	t.Helper()
	progs := slices.Repeat([][]impl.Ins{program(t, "send 3 0", "jump 0")}, 3)
	s := wantNew(append(progs, program(t, "take 0 any", "jump 0"))...)
	for range 18 {
		for p := range 3 {
			play(&s, p, 0)
		}
	}
	for _, peer := range order {
		if !play(&s, 3, peer) || !play(&s, 3, peer) {
			t.Fatalf("it can't come: %+v", s)
		}
	}
	return s
}

func TestForthWithOneEventThatDiffers(t *testing.T) {
	order := []int{0, 1, 2, 0, 1, 2, 2}
	s := takesFrom(t, order...)
	for at := range order {
		for peer := range 3 {
			list := slices.Clone(order)
			list[at] = peer
			other := takesFrom(t, list...)
			same := peer == order[at]
			if slices.Equal(s.Hist[3], other.Hist[3]) != same || !sameState(s.States[3], other.States[3]) {
				t.Fatalf("%+v", other)
			}
			holdForth(t, "one differs", s, other, same)
			holdForth(t, "one differs", other, s, same)
			// Ahead of where they differ they are the same; behind it not any more, however many there are of one.
			for k := range order {
				holdForth(t, "the one ahead of that", takesFrom(t, order[:k]...), other, same || k <= at)
				holdForth(t, "the other one ahead of that", takesFrom(t, list[:k]...), s, same || k <= at)
				holdForth(t, "fewer", s, takesFrom(t, list[:k]...), false)
			}
			holdForth(t, "and more", s, takesFrom(t, append(list, 0)...), same)
			holdForth(t, "and more", takesFrom(t, append(list, 0)...), s, false)
		}
	}
}

// What differs may be of any process.
func TestForthWhoeverDiffers(t *testing.T) {
	for n := 2; n <= 4; n++ {
		for p := range n {
			progs := [][]impl.Ins{}
			for q := range n {
				list := slices.Repeat([]impl.Ins{{Op: impl.OpSend, N: p}}, 2)
				if q == p {
					list = append(list, impl.Ins{Op: impl.OpTake, N: impl.Any})
				}
				progs = append(progs, append(list, impl.Ins{Op: impl.OpEnd}))
			}
			s := wantNew(progs...)
			for range 2 {
				for q := range n {
					play(&s, q, 0)
				}
			}
			for a := range n {
				for b := range n {
					one, other := cloneSys(s), cloneSys(s)
					play(&one, p, a)
					play(&other, p, b)
					holdForth(t, "from whom", one, other, a == b)
				}
			}
		}
	}
}

func TestForthIsAnOrder(t *testing.T) {
	r := rand.New(rand.NewSource(41))
	seen := map[bool]int{}
	for range 60 {
		s := someChat(r, r.Intn(60))
		list := []impl.Sys{s, marked(s)}
		for range 5 {
			if then, ok := impl.At(s, impl.Close(s, someCut(r, s))); ok {
				list = append(list, then)
				for range r.Intn(6) {
					then, _ = impl.Step(then, r.Intn(len(then.Progs)), r.Intn(len(then.Progs)))
				}
				list = append(list, then)
			}
		}
		for _, a := range list {
			for _, b := range list {
				got := impl.Forth(a, b)
				if got != wantForth(a, b) || got && impl.Forth(b, a) && !sameSys(noMarks(a), noMarks(b)) {
					t.Fatalf("Forth(%+v, %+v) is %v", a, b, got)
				}
				seen[got]++
				for _, c := range list {
					if got && impl.Forth(b, c) && !impl.Forth(a, c) {
						t.Fatalf("from %+v over %+v to %+v", a, b, c)
					}
				}
			}
		}
	}
	if seen[true] < 1000 || seen[false] < 1000 {
		t.Error("few:", seen)
	}
}

// A step goes forth, and back by one of its process is where it was.
func TestStepsGoForthAndBack(t *testing.T) {
	r := rand.New(rand.NewSource(42))
	steps := 0
	for range 60 {
		s := someChat(r, 0)
		n := len(s.Progs)
		for range 60 {
			p := r.Intn(n)
			after, code := impl.Step(s, p, r.Intn(n))
			if code != impl.RsDone {
				continue
			}
			then, how := impl.BackOne(after, p)
			if !impl.Forth(s, after) || impl.Forth(after, s) || how != impl.BkDone || !sameSys(then, s) {
				t.Fatalf("BackOne(%+v, %d) is %+v, %d, not %+v", after, p, then, how, s)
			}
			s = after
			steps++
		}
	}
	if steps < 1500 {
		t.Error("few:", steps)
	}
}

// Just those events are gone that are of p from k on or hang on such a one.
func TestWhatIsGoneHangsOnWhatWasTakenBack(t *testing.T) {
	r := rand.New(rand.NewSource(43))
	own, others, stays := 0, 0, 0
	systems := []impl.Sys{talk(t), underWay(t), chain(t, []int{2, 0, 3, 1}, 1), roundTrip(t, []int{1, 2, 0}, 2), gate(t, []int{0, 2, 1}, 10)}
	for range 100 {
		systems = append(systems, someChat(r, r.Intn(30)))
	}
	for _, s := range systems {
		list := all(s)
		on := map[[2]one]bool{}
		for _, x := range list {
			for _, y := range list {
				on[[2]one{x, y}] = hangs(s, x, y)
			}
		}
		for p, most := range counts(s) {
			for k := range most + 1 {
				then, how := impl.Back(s, p, k)
				undone := impl.Undone(s, p, k)
				if how != impl.BkDone {
					continue
				}
				for _, x := range list {
					gone := x.p == p && x.i >= k
					for i := k; i < most; i++ {
						gone = gone || on[[2]one{x, {p, i}}]
					}
					if gone != (x.i >= len(then.Hist[x.p])) || gone != (x.i >= len(s.Hist[x.p])-undone[x.p]) {
						t.Fatalf("%v hangs on %d of %d: %v, and back there are %v, in %+v", x, k, p, gone, counts(then), s)
					}
					switch {
					case !gone:
						stays++
					case x.p == p:
						own++
					default:
						others++
					}
				}
			}
		}
	}
	if own < 3000 || others < 1000 || stays < 3000 {
		t.Error("few:", own, others, stays)
	}
}

// Back to fewer over more is back to fewer at once; of two the order makes no difference; and from there on all can be done again.
func TestBackOfWhatWasTakenBack(t *testing.T) {
	r := rand.New(rand.NewSource(44))
	less, two, again := 0, 0, 0
	for range 500 {
		s := someChat(r, r.Intn(80))
		p, q := r.Intn(len(s.Hist)), r.Intn(len(s.Hist))
		k, j := r.Intn(len(s.Hist[p])+1), r.Intn(len(s.Hist[q])+1)
		first, how := impl.Back(s, p, k)
		if how != impl.BkDone {
			continue
		}
		if goesOn(cloneSys(first), s) {
			again++
		}
		fewer := r.Intn(k + 1)
		got, code := impl.Back(first, p, fewer)
		want, told := impl.Back(s, p, fewer)
		if code != told || code == impl.BkDone && !sameSys(got, want) {
			t.Fatalf("back to %d over %d of %d is %+v, %d, not %+v, %d", fewer, k, p, got, code, want, told)
		}
		less++
		second, other := impl.Back(s, q, j)
		if other != impl.BkDone || p == q || j > len(first.Hist[q]) || k > len(second.Hist[p]) {
			continue
		}
		a, codeA := impl.Back(first, q, j)
		b, codeB := impl.Back(second, p, k)
		if codeA != codeB || codeA == impl.BkDone && !sameSys(a, b) {
			t.Fatalf("back of %d and %d is %+v, %d, of %d and %d %+v, %d", p, q, a, codeA, q, p, b, codeB)
		}
		two++
	}
	if less < 300 || two < 80 || again < 200 {
		t.Error("few:", less, two, again)
	}
}

func TestBackOfAsManyEventsAsThereCanBe(t *testing.T) {
	progs := [][]impl.Ins{}
	for p := range 4 {
		progs = append(progs, []impl.Ins{{Op: impl.OpSend, N: (p + 1) % 4}, {Op: impl.OpTake, N: impl.Any}, {Op: impl.OpJump}})
	}
	s := wantNew(progs...)
	for range 200 {
		for p := range 4 {
			play(&s, p, (p+3)%4)
		}
	}
	if events(s) != 800 {
		t.Fatal(events(s))
	}
	// Each sends ahead of its first take: one send of each stays, and then one more round for each that is further away.
	holdUndone(t, "to nothing", s, 0, 0, 200, 199, 196, 193)
	holdUndone(t, "to nothing", s, 2, 0, 196, 193, 200, 199)
	holdUndone(t, "to one", s, 0, 1, 199, 196, 193, 190)
	holdUndone(t, "to one less", s, 3, 199, 0, 0, 0, 1)
	holdUndone(t, "to all", s, 1, 200, 0, 0, 0, 0)
	tell := tellingOf(s)
	for p := range 4 {
		for k := 3 * p; k <= 200; k += 23 {
			holdBack(t, "as many as can be", tell, p, k)
		}
		holdBack(t, "one less", tell, p, 199)
		holdStays(t, "one more", s, p, 201, impl.BkNone)
	}
}

func TestBackByChance(t *testing.T) {
	r := rand.New(rand.NewSource(45))
	codes := [4]int{}
	far := 0
	for range 2000 {
		s := someChat(r, r.Intn(120))
		if r.Intn(3) == 0 {
			s = someSys(r, r.Intn(150))
		}
		if r.Intn(6) == 0 {
			someTurn(r, &s)
		}
		tell := tellingOf(s)
		for range 4 {
			p := r.Intn(len(s.Progs))
			k := r.Intn(len(s.Hist[p]) + 1)
			switch r.Intn(14) {
			case 0:
				p = wild()[r.Intn(len(wild()))]
			case 1:
				k = wild()[r.Intn(len(wild()))]
			case 2:
				p = len(s.Progs)
			case 3:
				k = len(s.Hist[p]) + 1
			}
			then, how := holdBack(t, "by chance", tell, p, k)
			codes[how]++
			if how == impl.BkDone && events(then)+5 < events(s)-(len(s.Hist[p])-k) {
				far++
			}
			// Of another one it may not be the same.
			other := someChat(r, r.Intn(3))
			holdForth(t, "by chance", then, other, wantForth(then, other))
		}
	}
	if codes[0] < 3000 || codes[1] < 300 || codes[2] < 600 || codes[3] < 30 || far < 400 {
		t.Error("few:", codes, far)
	}
}

// holdBackAlone holds, of s as it is laid out, that same tells no change, and that no answer shares anything.
func holdBackAlone(t *testing.T, tell telling, s impl.Sys, p, k int, same func() bool) int {
	t.Helper()
	want, told := tell.back(p, k)
	want = cloneSys(want)
	first, code := impl.Back(s, p, k)
	again, _ := impl.Back(s, p, k)
	undone, undoneAgain := impl.Undone(s, p, k), impl.Undone(s, p, k)
	if code != told || !sameSys(first, want) || !same() {
		t.Fatalf("Back(%+v, %d, %d) is %+v, %d, or wrote into it", tell.s, p, k, first, code)
	}
	holdApart(t, first)
	overwrite(undone)
	if !same() || !sameSys(again, want) || code == impl.BkDone && !slices.Equal(undoneAgain, tell.lost(p, k)) {
		t.Fatalf("what comes of Back(%+v, %d, %d) is shared", tell.s, p, k)
	}
	one, how := impl.BackOne(s, p)
	oneAgain, _ := impl.BackOne(s, p)
	kept := cloneSys(one)
	holdApart(t, one)
	if !same() || !sameSys(oneAgain, kept) {
		t.Fatalf("what comes of BackOne(%+v, %d), %d, is shared", tell.s, p, how)
	}
	return code
}

func TestBackWritesIntoNothingAndSharesNothing(t *testing.T) {
	r := rand.New(rand.NewSource(46))
	codes := [4]int{}
	list := append(stepSystems(t), talk(t), marked(talk(t)), chain(t, []int{3, 2, 1, 0}, 1), flow(t, 2, 0, 1, 20, 10), marked(flow(t, 3, 2, 1, 20, 9)), gate(t, []int{2, 0, 1}, 16))
	for _, from := range list {
		tell := tellingOf(from)
		for _, given := range layings(from) {
			for p := -1; p <= min(len(from.Hist), 4); p++ {
				places := []int{-1, 0, 1}
				if p >= 0 && p < len(from.Hist) {
					most := len(from.Hist[p])
					places = append(places, r.Intn(most+1), most, most+1)
				}
				for _, k := range places {
					s, same := given()
					codes[holdBackAlone(t, tell, s, p, k, same)]++
				}
			}
		}
	}
	if codes[0] < 1000 || codes[1] < 1000 || codes[2] < 1000 || codes[3] < 6 {
		t.Error("few:", codes)
	}
}

func TestForthWritesIntoNothing(t *testing.T) {
	r := rand.New(rand.NewSource(47))
	seen := map[bool]int{}
	for _, from := range append(stepSystems(t), talk(t), marked(talk(t)), chain(t, []int{3, 2, 1, 0}, 1)) {
		others := []impl.Sys{from, marked(noMarks(from)), {}}
		if cut := someCut(r, from); impl.CutOk(from, cut) {
			if then, ok := impl.At(from, impl.Close(from, cut)); ok {
				others = append(others, then)
			}
		}
		for _, to := range others {
			for i := range layings(from) {
				s, same := layings(from)[i]()
				other, sameOther := layings(to)[i]()
				there, home := impl.Forth(s, other), impl.Forth(other, s)
				if there != wantForth(from, to) || home != wantForth(to, from) || !same() || !sameOther() {
					t.Fatalf("Forth of %+v and %+v is %v and %v, or wrote into them", from, to, there, home)
				}
				seen[there]++
				seen[home]++
				if impl.Forth(s, s) != wantSysOk(from) || !same() {
					t.Fatalf("Forth of %+v and itself", from)
				}
			}
		}
	}
	if seen[true] < 500 || seen[false] < 500 {
		t.Error("few:", seen)
	}
}

// The events of one may be a piece of the other's.
func TestForthOfAPieceOfTheOther(t *testing.T) {
	s := stairs(t, 4)
	kept := cloneSys(s)
	for _, cut := range cutsWithin(counts(s)) {
		then := wantNew(s.Progs...)
		then.Progs = s.Progs
		for p, k := range cut {
			then.Hist[p] = s.Hist[p][:k]
			then.States[p], _ = wantReplay(s.Progs[p], then.Hist[p])
		}
		all := slices.Equal(cut, counts(s))
		if !impl.Forth(then, s) || impl.Forth(s, then) != all || !sameSys(s, kept) {
			t.Fatalf("%v of %+v", cut, s)
		}
	}
}

// What was told stays what it was, whatever becomes of the system.
func TestWhatWasTakenBackIsKept(t *testing.T) {
	for _, c := range []struct {
		s    impl.Sys
		p, k int
	}{{marked(talk(t)), 0, 4}, {marked(talk(t)), 0, 8}, {marked(talk(t)), 3, 0}, {marked(talk(t)), 1, 6}, {marked(flow(t, 2, 0, 1, 20, 10)), 1, 0}} {
		tell := tellingOf(cloneSys(c.s))
		want, code := tell.back(c.p, c.k)
		got, how := impl.Back(c.s, c.p, c.k)
		undone := impl.Undone(c.s, c.p, c.k)
		holdApart(t, c.s)
		if how != code || !sameSys(got, want) || code == impl.BkDone && !slices.Equal(undone, tell.lost(c.p, c.k)) {
			t.Errorf("%+v, %d, %v", got, how, undone)
		}
	}
}

// One list in several places of the argument comes out as several.
func TestBackTellsApartWhatIsOne(t *testing.T) {
	for n := 1; n <= 4; n++ {
		list := program(t, "set 0 0", "print 0", "jump 0")
		events := append(make([]impl.Event, 0, 9), local(), impl.Event{Kind: impl.EvPrint}, local())
		regs, out, marks := make([]int, 4, 9), make([]int, 1, 9), append(make([]impl.Item, 0, 9), impl.Item{Mark: true})
		s := impl.Sys{Progs: slices.Repeat([][]impl.Ins{list}, n), States: slices.Repeat([]impl.State{{Regs: regs, Out: out}}, n),
			Ways: slices.Repeat([][]impl.Item{marks}, n*n), Hist: slices.Repeat([][]impl.Event{events}, n)}
		kept := cloneSys(s)
		for p := -1; p <= n; p++ {
			for k := -1; k <= 4; k++ {
				got, how := impl.Back(s, p, k)
				if (how == impl.BkDone) != (p >= 0 && p < n && k >= 0 && k < 4) || how != impl.BkDone && how != impl.BkNone {
					t.Fatalf("Back to %d of %d is %+v, %d", k, p, got, how)
				}
				for q := range n {
					got.Hist[q] = append(got.Hist[q], impl.Event{Kind: 7, V: q})
				}
				for i := range got.Ways {
					got.Ways[i] = append(got.Ways[i], impl.Item{V: i})
				}
				holdApart(t, got)
				if !sameSys(s, kept) || marks[:2][1] != (impl.Item{}) || events[:4][3] != (impl.Event{}) || !slices.Equal(regs[:9], make([]int, 9)) || !slices.Equal(out[:9], make([]int, 9)) {
					t.Fatalf("it was written into: %+v", s)
				}
			}
		}
		if !impl.Forth(s, s) || !sameSys(s, kept) {
			t.Errorf("Forth of one list in several places: %+v", s)
		}
	}
}
