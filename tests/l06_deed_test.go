package tests

import (
	"math"
	"math/rand"
	"runtime"
	"slices"
	"sync"
	"testing"
	"time"

	"loop.example/g00196/impl"
)

func TestMostPicksIsTwoHundred(t *testing.T) {
	if impl.MaxPicks != 200 {
		t.Error(impl.MaxPicks)
	}
}

// wantRun is Run, told once more.
func wantRun(s impl.Sys, list []impl.Pick) (impl.Sys, []int) {
	s = cloneSys(s)
	codes := []int{}
	if len(list) > 200 || !wantSysOk(s) {
		return s, codes
	}
	for _, x := range list {
		code := wantCode(s, x.P, x.Peer)
		if code == 0 {
			play(&s, x.P, x.Peer)
		}
		codes = append(codes, code)
	}
	return s, codes
}

// wantFair is Fair, told once more: each in its turn tries one peer behind the other.
func wantFair(s impl.Sys, rounds int) (impl.Sys, int) {
	if !wantSysOk(s) {
		return impl.Sys{}, 0
	}
	s = cloneSys(s)
	steps := 0
	for round := 0; round < rounds && round < 60; round++ {
		for p := range s.Progs {
			for peer := range s.Progs {
				if wantCode(s, p, peer) == 0 {
					play(&s, p, peer)
					steps++
					break
				}
			}
		}
	}
	return s, steps
}

// events is how many events there are in all.
func events(s impl.Sys) int {
	n := 0
	for _, list := range s.Hist {
		n += len(list)
	}
	return n
}

// holdRun holds Run against what is told once more, and against the codes that are said; it answers the system behind it.
func holdRun(t *testing.T, what string, s impl.Sys, list []impl.Pick, codes ...int) impl.Sys {
	t.Helper()
	want, told := wantRun(s, list)
	if !slices.Equal(told, codes) {
		t.Fatalf("%s: told once more the codes are %v, not %v", what, told, codes)
	}
	got, how := impl.Run(s, list)
	if !slices.Equal(how, codes) || !sameSys(got, want) {
		t.Errorf("%s: Run(%+v, %v) is %+v, %v, not %+v, %v", what, s, list, got, how, want, codes)
	}
	return got
}

// holdFair holds Fair against what is told once more, and against how many steps are said; it answers the system behind it.
func holdFair(t *testing.T, what string, s impl.Sys, rounds, steps int) impl.Sys {
	t.Helper()
	want, told := wantFair(s, rounds)
	if told != steps {
		t.Fatalf("%s: told once more it is %d, not %d", what, told, steps)
	}
	got, n := impl.Fair(s, rounds)
	if n != steps || !sameSys(got, want) {
		t.Errorf("%s: Fair(%+v, %d) is %+v, %d, not %+v, %d", what, s, rounds, got, n, want, steps)
	}
	if impl.SysOk(s) && (!impl.SysOk(got) || events(got) != events(s)+n) {
		t.Errorf("%s: behind Fair(%+v, %d) it is not right, or there are not %d events more: %+v", what, s, rounds, n, got)
	}
	return got
}

// each is picks of these processes, with peer 0.
func each(procs ...int) []impl.Pick {
	list := []impl.Pick{}
	for _, p := range procs {
		list = append(list, impl.Pick{P: p})
	}
	return list
}

func TestRunsOfNoPicksAndOfOne(t *testing.T) {
	s := underWay(t)
	for _, list := range [][]impl.Pick{nil, {}} {
		if got := holdRun(t, "no picks", s, list); !sameSys(got, s) {
			t.Errorf("it is not as it was: %+v", got)
		}
	}
	got := holdRun(t, "one", s, each(1), impl.RsDone)
	if len(got.Hist[1]) != 4 || len(got.Hist[0]) != 6 {
		t.Errorf("%+v", got)
	}
	holdRun(t, "one that is not done", s, each(7), impl.RsNone)
	for p := range 2 {
		want, code := impl.Step(s, p, 0)
		if got := holdRun(t, "a step", s, each(p), code); !sameSys(got, want) {
			t.Errorf("%+v", got)
		}
	}
}

func TestPicksMetAndPassed(t *testing.T) {
	s := wantNew(program(t, "jump 0"), program(t, "jump 0"))
	for _, n := range []int{1, 2, 199, 200} {
		for p := range 2 {
			got := holdRun(t, "so many", s, each(many(n, p)...), many(n, 0)...)
			if len(got.Hist[p]) != n || len(got.Hist[1-p]) != 0 {
				t.Errorf("%d: %+v", n, got)
			}
		}
	}
	for _, n := range []int{201, 202, 400, 100000} {
		// None of them is done, not even the first MaxPicks.
		for _, p := range []int{0, 1, 7} {
			if got := holdRun(t, "too many", s, each(many(n, p)...)); !sameSys(got, s) {
				t.Errorf("%d: it is not as it was: %+v", n, got)
			}
		}
	}
	// Picks count, not steps: those of nobody are among them.
	both := slices.Concat(each(many(199, 7)...), each(0))
	got := holdRun(t, "the last of all", s, both, append(many(199, impl.RsNone), impl.RsDone)...)
	if len(got.Hist[0]) != 1 {
		t.Errorf("%+v", got)
	}
	holdRun(t, "one more of nobody", s, slices.Concat(each(7), both))
	// Behind MaxEvents nothing more is done.
	half := holdRun(t, "half", s, each(many(100, 1)...), many(100, 0)...)
	full := holdRun(t, "full behind the half", half, each(many(200, 1)...), append(many(100, 0), many(100, impl.RsFull)...)...)
	if len(full.Hist[1]) != 200 {
		t.Errorf("%+v", full)
	}
	if got := holdRun(t, "full", full, each(1, 0, 1), impl.RsFull, impl.RsDone, impl.RsFull); len(got.Hist[0]) != 1 {
		t.Errorf("%+v", got)
	}
}

func TestNoDeedsInWhatIsNotRight(t *testing.T) {
	for i, s := range wrongSystems(t) {
		if wantSysOk(s) {
			t.Fatal("it is right:", i)
		}
		kept := cloneSys(s)
		for _, list := range [][]impl.Pick{nil, each(0), each(1, 0), each(7), each(many(200, 0)...), each(many(201, 0)...)} {
			got, codes := impl.Run(s, list)
			if !sameSys(got, kept) || len(codes) != 0 {
				t.Errorf("Run(%+v, %v) is %+v, %v", s, list, got, codes)
			}
		}
		for _, rounds := range append(wild(), 59, 60, 61) {
			if got, n := impl.Fair(s, rounds); !isZeroSys(got) || n != 0 {
				t.Errorf("Fair(%+v, %d) is %+v, %d", s, rounds, got, n)
			}
		}
	}
}

// crowd is four of which each has another code at hand: 0 goes on for ever, 1 is over, 2 takes from whichever, 3 sends to 0 for ever.
func crowd(t *testing.T) impl.Sys {
	return played(t, [][]impl.Ins{
		program(t, "add 0 0 1", "jump 0"), program(t, "end"), program(t, "take 0 any", "jump 0"), program(t, "send 0 0", "jump 0"),
	}, 1)
}

func TestEachCodeInTheMiddle(t *testing.T) {
	free := crowd(t)
	full := but(free, func(s *impl.Sys) { s.Ways[12] = slices.Repeat([]impl.Item{{Mark: true}}, 12) })
	marked := but(free, func(s *impl.Sys) { s.Ways[14] = []impl.Item{{Mark: true}} })
	worn := worn(t, 2, 1, 200, "jump 0")
	worn.Progs[0] = program(t, "jump 0")
	cases := []struct {
		what string
		s    impl.Sys
		pick impl.Pick
		code int
	}{
		{"no process", free, impl.Pick{P: 4}, impl.RsNone},
		{"no process below 0", free, impl.Pick{P: -1}, impl.RsNone},
		{"no process at all", free, impl.Pick{P: math.MinInt, Peer: math.MaxInt}, impl.RsNone},
		{"Any is no process", free, impl.Pick{P: impl.Any}, impl.RsNone},
		{"no peer", free, impl.Pick{P: 2, Peer: 4}, impl.RsNone},
		{"no peer below 0", free, impl.Pick{P: 2, Peer: -1}, impl.RsNone},
		{"Any is no peer", free, impl.Pick{P: 2, Peer: impl.Any}, impl.RsNone},
		{"nothing comes", free, impl.Pick{P: 2, Peer: 0}, impl.RsWait},
		{"nothing comes from the last", free, impl.Pick{P: 2, Peer: 3}, impl.RsWait},
		{"a mark is first", marked, impl.Pick{P: 2, Peer: 3}, impl.RsMark},
		{"over", free, impl.Pick{P: 1}, impl.RsOver},
		{"over, with a peer that there is not", free, impl.Pick{P: 1, Peer: 7}, impl.RsOver},
		{"a full way", full, impl.Pick{P: 3}, impl.RsFull},
		{"full of events", worn, impl.Pick{P: 1}, impl.RsFull},
	}
	for _, c := range cases {
		// The peer of a step that takes nothing makes no difference.
		ahead, behind := impl.Pick{Peer: 7}, impl.Pick{Peer: -3}
		without := holdRun(t, c.what, c.s, []impl.Pick{ahead, behind, ahead}, 0, 0, 0)
		with := holdRun(t, c.what, c.s, []impl.Pick{ahead, c.pick, behind, c.pick, c.pick, ahead}, 0, c.code, 0, c.code, c.code, 0)
		if !sameSys(with, without) || len(with.Hist[0]) != len(c.s.Hist[0])+3 {
			t.Errorf("%s: %+v, not %+v", c.what, with, without)
		}
		if alone := holdRun(t, c.what, c.s, []impl.Pick{c.pick, c.pick}, c.code, c.code); !sameSys(alone, c.s) {
			t.Errorf("%s: it is not as it was: %+v", c.what, alone)
		}
	}
}

func TestAllCodesInOneRun(t *testing.T) {
	s := wantNew(program(t, "set 0 5", "send 1 0", "take 1 1", "print 1", "end"), program(t, "take 0 any", "add 0 0 0", "send 0 0", "end"))
	s.Ways[1] = slices.Repeat([]impl.Item{{Mark: true}}, 12)
	s = holdRun(t, "a full way", s, each(0, 0, 1, 0, 2), impl.RsDone, impl.RsFull, impl.RsMark, impl.RsFull, impl.RsNone)
	s.Ways[1] = nil
	s = holdRun(t, "the whole talk", s, []impl.Pick{{P: 1}, {P: 0, Peer: 1}, {P: 0}, {P: 1, Peer: 1}, {P: 1, Peer: 2}, {P: 1}, {P: 1}, {P: 0}, {P: 1, Peer: 9}, {P: 0, Peer: 9}, {P: 0}, {P: 0}, {P: 0}, {P: 1}, {P: 1}},
		impl.RsWait, impl.RsDone, impl.RsWait, impl.RsWait, impl.RsNone, impl.RsDone, impl.RsDone, impl.RsWait, impl.RsDone, impl.RsDone, impl.RsDone, impl.RsDone, impl.RsOver, impl.RsDone, impl.RsOver)
	if !slices.Equal(impl.Printed(s, 0), []int{10}) || !impl.Halted(s) {
		t.Errorf("%+v", s)
	}
}

// A pick with a peer takes from that one, in the order of the picks.
func TestPicksTellWhomItTakesFrom(t *testing.T) {
	progs := [][]impl.Ins{program(t, "set 0 10", "send 3 0", "end"), program(t, "set 0 11", "send 3 0", "end"), program(t, "set 0 12", "send 3 0", "end"),
		program(t, "take 0 any", "print 0", "jump 0")}
	s := played(t, progs, 0, 0, 1, 1, 2, 2)
	for _, order := range [][]int{{0, 1, 2}, {0, 2, 1}, {1, 0, 2}, {1, 2, 0}, {2, 0, 1}, {2, 1, 0}} {
		list, want := []impl.Pick{}, []int{}
		for _, peer := range order {
			list = append(list, impl.Pick{P: 3, Peer: peer}, impl.Pick{P: 3, Peer: peer}, impl.Pick{P: 3, Peer: peer})
			want = append(want, 10+peer)
		}
		got := holdRun(t, "in order", s, list, many(9, 0)...)
		if !slices.Equal(impl.Printed(got, 3), want) {
			t.Errorf("%v: printed %v", order, impl.Printed(got, 3))
		}
	}
}

// somePicks is picks of which most are of processes and peers that there are.
func somePicks(r *rand.Rand, n, count int) []impl.Pick {
	list := []impl.Pick{}
	for range count {
		x := impl.Pick{P: r.Intn(n), Peer: r.Intn(n)}
		if r.Intn(20) == 0 {
			x.P = wild()[r.Intn(len(wild()))]
		}
		if r.Intn(20) == 0 {
			x.Peer = wild()[r.Intn(len(wild()))]
		}
		list = append(list, x)
	}
	return list
}

func TestARunIsItsSteps(t *testing.T) {
	r := rand.New(rand.NewSource(18))
	codes := [7]int{}
	for i := range 400 {
		s := someSys(r, r.Intn(150))
		count := r.Intn(80)
		if i%20 == 0 {
			count = 200
		}
		list := somePicks(r, len(s.Progs), count)
		_, told := wantRun(s, list)
		got := holdRun(t, "by chance", s, list, told...)
		if len(told) != count {
			t.Fatalf("%d codes of %d", len(told), count)
		}
		behind := s
		for i, x := range list {
			after, code := impl.Step(behind, x.P, x.Peer)
			if code != told[i] || code != impl.RsDone && !sameSys(after, behind) {
				t.Fatalf("step %d of %v is %d, not %d", i, list, code, told[i])
			}
			codes[code]++
			behind = after
		}
		if !sameSys(got, behind) || !impl.SysOk(got) {
			t.Fatalf("Run(%+v, %v) is %+v, not %+v", s, list, got, behind)
		}
	}
	for code, count := range codes {
		if code != impl.RsBad && count < 100 {
			t.Error("few:", codes)
		}
	}
}

func TestTwoRunsOfItsHalves(t *testing.T) {
	r := rand.New(rand.NewSource(19))
	steps := 0
	for i := range 200 {
		s := someSys(r, r.Intn(60))
		count := r.Intn(40)
		if i%20 == 0 {
			count = 200
		}
		list := somePicks(r, len(s.Progs), count)
		whole, codes := impl.Run(s, list)
		for at := range count + 1 {
			first, some := impl.Run(s, list[:at])
			rest, others := impl.Run(first, list[at:])
			if !sameSys(rest, whole) || !slices.Equal(slices.Concat(some, others), codes) || len(some) != at {
				t.Fatalf("parted at %d: %+v, %v and %v, not %+v, %v", at, rest, some, others, whole, codes)
			}
		}
		steps += events(whole) - events(s)
	}
	if steps < 500 {
		t.Error("few:", steps)
	}
}

func TestRoundsMetAndPassed(t *testing.T) {
	for n := 1; n <= 4; n++ {
		s := wantNew(slices.Repeat([][]impl.Ins{program(t, "jump 0")}, n)...)
		for _, rounds := range append(wild(), -2, 58, 59, 60, 61, 62, 120, 200) {
			want := min(max(rounds, 0), 60)
			got := holdFair(t, "so many rounds", s, rounds, n*want)
			for p := range n {
				if len(got.Hist[p]) != want {
					t.Errorf("%d rounds of %d: %+v", rounds, n, got.Hist)
				}
			}
			if want == 0 && !sameSys(got, s) {
				t.Errorf("%d rounds: it is not as it was: %+v", rounds, got)
			}
		}
		// Up to MaxEvents, and no more.
		behind := s
		for _, steps := range []int{60, 60, 60, 20, 0} {
			behind = holdFair(t, "to the last event", behind, 60, n*steps)
		}
		if events(behind) != 200*n || !impl.Halted(behind) {
			t.Errorf("%+v", behind)
		}
	}
}

func TestNothingMoreHappensInWhatIsHalted(t *testing.T) {
	mark := []impl.Item{{Mark: true}}
	waits := wantNew(program(t, "take 0 any", "end"), program(t, "take 0 0", "end"))
	list := []impl.Sys{
		played(t, [][]impl.Ins{program(t, "end")}, 0), played(t, [][]impl.Ins{program(t, "set 0 1"), program(t, "end")}, 0, 1), waits,
		but(waits, func(s *impl.Sys) { s.Ways[0], s.Ways[1], s.Ways[2], s.Ways[3] = mark, mark, mark, mark }),
		sends(t, 12, 0), sends(t, 6, 6), played(t, pair(t), 0, 0, 0, 0, 1, 1, 1, 0, 0, 0, 0, 0, 1),
		but(wantNew(program(t, "jump 0")), func(s *impl.Sys) { s.Hist[0] = slices.Repeat([]impl.Event{local()}, 200) }),
	}
	for _, s := range list {
		if !impl.Halted(s) {
			t.Fatalf("it is not halted: %+v", s)
		}
		for _, rounds := range append(wild(), 60, 61) {
			if got := holdFair(t, "halted", s, rounds, 0); !sameSys(got, s) {
				t.Errorf("Fair of %d: it is not as it was: %+v", rounds, got)
			}
		}
		picks := []impl.Pick{}
		for p := -1; p <= 4; p++ {
			for _, peer := range []int{-1, 0, 1, 2, 3, 4, 9} {
				picks = append(picks, impl.Pick{P: p, Peer: peer})
			}
		}
		got, codes := impl.Run(s, picks)
		if !sameSys(got, s) || len(codes) != len(picks) || slices.Contains(codes, impl.RsDone) || slices.Contains(codes, impl.RsBad) {
			t.Errorf("Run of what is halted is %+v, %v", got, codes)
		}
	}
}

func TestHaltedInTheMiddle(t *testing.T) {
	s := wantNew(pair(t)...)
	for rounds := range 20 {
		got := holdFair(t, "pair", s, rounds, []int{0, 1, 3, 5, 7, 9, 10, 11, 12, 13}[min(rounds, 9)])
		if impl.Halted(got) != (rounds >= 9) {
			t.Errorf("%d rounds: %+v", rounds, got)
		}
	}
}

// who is who had an event in each round, told by one round behind the other.
func who(t *testing.T, s impl.Sys, rounds int) [][]int {
	t.Helper()
	list := [][]int{}
	for range rounds {
		had := []int{}
		after, _ := impl.Fair(s, 1)
		for p := range s.Progs {
			for range len(after.Hist[p]) - len(s.Hist[p]) {
				had = append(had, p)
			}
		}
		s, list = after, append(list, had)
	}
	return list
}

// What was sent earlier in a round is there for those who come later in it, and for those ahead only in the next.
func TestWhoComesFirstInARound(t *testing.T) {
	for n := 2; n <= 4; n++ {
		for from := range n {
			for to := range n {
				progs := slices.Repeat([][]impl.Ins{program(t, "take 3 any", "end")}, n)
				progs[from] = []impl.Ins{{Op: impl.OpSend, N: to}, {Op: impl.OpTake, R: 3, N: from}, {Op: impl.OpEnd}}
				s := wantNew(progs...)
				want := [][]int{{from}, {to}, {to}, {}}
				if from < to {
					want = [][]int{{from, to}, {to}, {}, {}}
				}
				if got := who(t, s, 4); !sameLists(got, want) {
					t.Errorf("from %d to %d of %d: %v, not %v", from, to, n, got, want)
				}
				holdFair(t, "all rounds", s, 10, 3)
			}
		}
	}
	// A chain upward goes through in one round, one downward takes a round for each.
	up := wantNew(program(t, "send 1 0", "end"), program(t, "take 0 0", "send 2 0", "end"), program(t, "take 0 1", "send 3 0", "end"), program(t, "take 0 2", "end"))
	if got, want := who(t, up, 6), [][]int{{0, 1}, {0, 1, 2}, {1, 2, 3}, {2, 3}, {}, {}}; !sameLists(got, want) {
		t.Errorf("up: %v", got)
	}
	down := wantNew(program(t, "take 0 1", "end"), program(t, "take 0 2", "send 0 0", "end"), program(t, "take 0 3", "send 1 0", "end"), program(t, "send 2 0", "end"))
	if got, want := who(t, down, 8), [][]int{{3}, {2, 3}, {2}, {1, 2}, {1}, {0, 1}, {0}, {}}; !sameLists(got, want) {
		t.Errorf("down: %v", got)
	}
}

// A send on a way that is full waits for a take, in the same round if that comes ahead of it.
func TestRoomThatComesInARound(t *testing.T) {
	for to := range 2 {
		from := 1 - to
		progs := make([][]impl.Ins, 2)
		progs[from] = []impl.Ins{{Op: impl.OpSend, N: to}, {Op: impl.OpJump, N: 0}}
		progs[to] = program(t, "take 0 any", "end")
		s := wantNew(progs...)
		for range 24 {
			play(&s, from, 0)
		}
		if len(impl.WayOf(s, from, to)) != 12 {
			t.Fatalf("%+v", s)
		}
		got, n := impl.Fair(s, 1)
		want := 12
		if from == 0 {
			want = 11
		}
		if n != 1+want-11 || len(impl.WayOf(got, from, to)) != want {
			t.Errorf("from %d: %d, %+v", from, n, got.Ways)
		}
		holdFair(t, "room", s, 1, n)
		holdFair(t, "room", s, 9, 4)
	}
}

func TestTheFirstOfReady(t *testing.T) {
	several := 0
	for n := 1; n <= 4; n++ {
		for p := range n {
			for choice := range 1 << (2 * (n - 1)) {
				s, codes := fromAny(t, n, p, choice)
				// All others are over, so that nobody comes ahead.
				for q := range n {
					if q != p {
						play(&s, q, 0)
					}
				}
				first := slices.Index(codes, impl.RsDone)
				ready := impl.Ready(s, p)
				if len(ready) > 1 {
					several++
				}
				if first < 0 {
					if got := holdFair(t, "nobody", s, 1, 0); !sameSys(got, s) {
						t.Errorf("%+v", got)
					}
					continue
				}
				got := holdFair(t, "from any", s, 1, 1)
				if ready[0] != first || got.Hist[p][0] != (impl.Event{Kind: impl.EvTake, Peer: first, V: 60 + first}) {
					t.Errorf("%d of %d: from %d, not %d of %v", p, n, got.Hist[p][0].Peer, first, ready)
				}
			}
		}
	}
	if several < 50 {
		t.Error("few had several:", several)
	}
}

// Who is ready is asked when its turn comes, not when the round begins.
func TestReadyAsItIsThen(t *testing.T) {
	progs := [][]impl.Ins{program(t, "set 0 70", "send 1 0", "end"), program(t, "take 0 any", "take 1 any", "end"), program(t, "set 0 72", "send 1 0", "end")}
	s := played(t, progs, 2, 2, 0)
	if !slices.Equal(impl.Ready(s, 1), []int{2}) {
		t.Fatalf("%+v", s)
	}
	got := holdFair(t, "as it is then", s, 1, 3)
	if !slices.Equal(got.Hist[1], []impl.Event{{Kind: impl.EvTake, Peer: 0, V: 70}}) {
		t.Errorf("%+v", got.Hist[1])
	}
	got = holdFair(t, "as it is then", s, 2, 5)
	if !slices.Equal(got.Hist[1], []impl.Event{{Kind: impl.EvTake, Peer: 0, V: 70}, {Kind: impl.EvTake, Peer: 2, V: 72}}) {
		t.Errorf("%+v", got.Hist[1])
	}
	// What comes later in the round is not there yet.
	later := played(t, [][]impl.Ins{program(t, "take 0 any", "end"), program(t, "set 0 71", "send 0 0", "end"), program(t, "set 0 72", "send 0 0", "end")}, 1, 2, 2)
	got = holdFair(t, "later", later, 1, 3)
	if !slices.Equal(got.Hist[0], []impl.Event{{Kind: impl.EvTake, Peer: 2, V: 72}}) {
		t.Errorf("%+v", got.Hist[0])
	}
}

// The least peer comes first again and again, though others wait.
func TestTheLeastPeerAgainAndAgain(t *testing.T) {
	s := wantNew(program(t, "set 0 7", "send 2 0", "jump 1"), program(t, "set 0 8", "send 2 0", "jump 1"), program(t, "take 0 any", "print 0", "jump 0"))
	// The second comes to a full way behind twelve sends.
	got := holdFair(t, "again and again", s, 60, 60+25+59)
	if out := impl.Printed(got, 2); !slices.Equal(out, many(20, 7)) {
		t.Errorf("printed %v", out)
	}
}

func TestFairByChance(t *testing.T) {
	r := rand.New(rand.NewSource(20))
	halted, several, wrong := 0, 0, 0
	for range 1500 {
		s := someSys(r, r.Intn(150))
		if r.Intn(8) == 0 {
			someTurn(r, &s)
		}
		rounds := r.Intn(75) - 5
		_, steps := wantFair(s, rounds)
		got := holdFair(t, "by chance", s, rounds, steps)
		if !impl.SysOk(s) {
			wrong++
			continue
		}
		if impl.Halted(got) {
			halted++
		}
		// One step behind the other, by Ready and Step themselves.
		behind, done := s, 0
		for range min(rounds, 60) {
			if impl.Halted(behind) {
				break
			}
			for p := range behind.Progs {
				ready := impl.Ready(behind, p)
				if len(ready) == 0 {
					continue
				}
				if len(ready) > 1 {
					several++
				}
				after, code := impl.Step(behind, p, ready[0])
				if code != impl.RsDone {
					t.Fatalf("%d is ready with %v, and its step is %d: %+v", p, ready, code, behind)
				}
				behind, done = after, done+1
			}
		}
		if done != steps || !sameSys(got, behind) {
			t.Fatalf("Fair(%+v, %d) is %+v, %d, not %+v, %d", s, rounds, got, steps, behind, done)
		}
	}
	if halted < 300 || several < 60 || wrong < 50 {
		t.Error("few:", halted, several, wrong)
	}
}

func TestSomeRoundsAndThenTheRest(t *testing.T) {
	r := rand.New(rand.NewSource(21))
	for range 40 {
		s := someSys(r, r.Intn(60))
		rounds := r.Intn(61)
		whole, steps := impl.Fair(s, rounds)
		for at := range rounds + 1 {
			first, some := impl.Fair(s, at)
			rest, others := impl.Fair(first, rounds-at)
			if !sameSys(rest, whole) || some+others != steps {
				t.Fatalf("parted at %d of %d: %+v, %d and %d, not %+v, %d", at, rounds, rest, some, others, whole, steps)
			}
		}
	}
}

// Rounds are a Run of the picks that they come to.
func TestRoundsAreARun(t *testing.T) {
	r := rand.New(rand.NewSource(22))
	for range 100 {
		s := someSys(r, r.Intn(60))
		behind, picks := s, []impl.Pick{}
		for range 10 {
			for p := range s.Progs {
				if ready := impl.Ready(behind, p); len(ready) > 0 {
					picks = append(picks, impl.Pick{P: p, Peer: ready[0]})
					behind, _ = impl.Step(behind, p, ready[0])
				}
			}
		}
		want, codes := impl.Run(s, picks)
		if got, n := impl.Fair(s, 10); n != len(picks) || !sameSys(got, want) || slices.Max(append(codes, 0)) != 0 {
			t.Fatalf("Fair(%+v, 10) is %+v, %d, not %+v, %d", s, got, n, want, len(picks))
		}
	}
}

func TestWhatWasPrinted(t *testing.T) {
	for n := 1; n <= 4; n++ {
		progs := [][]impl.Ins{}
		for p := range n {
			list := []impl.Ins{{Op: impl.OpSet, N: 100 + p}, {Op: impl.OpPrint, A: 0}, {Op: impl.OpSet, N: -impl.MaxNum}, {Op: impl.OpPrint, A: 0}, {Op: impl.OpPrint, A: 1}, {Op: impl.OpEnd}}
			progs = append(progs, list)
		}
		progs[n-1] = program(t, "end")
		s := wantNew(progs...)
		for rounds := range 8 {
			got, _ := impl.Fair(s, rounds)
			for p := range n {
				want := []int{100 + p, -impl.MaxNum, 0}[:[]int{0, 0, 1, 1, 2, 3, 3, 3}[rounds]]
				if p == n-1 {
					want = nil
				}
				if out := impl.Printed(got, p); !slices.Equal(out, want) || !slices.Equal(out, got.States[p].Out) {
					t.Errorf("%d of %d printed %v behind %d rounds", p, n, out, rounds)
				}
			}
			for _, p := range append(wild(), -n, -2, n, n+1, 6, 7) {
				if out := impl.Printed(got, p); (p < 0 || p >= n) && len(out) != 0 {
					t.Errorf("%d of %d printed %v", p, n, out)
				}
			}
		}
	}
	for out := range 70 {
		s := wantNew(program(t, "print 0", "jump 0"))
		for range 2 * out {
			play(&s, 0, 0)
		}
		if got := impl.Printed(s, 0); !slices.Equal(got, many(min(out, 60), 0)) {
			t.Errorf("%d: %v", out, got)
		}
	}
}

// The chapter asks for no right system: what stands in the state of a process is what it printed.
func TestWhatWasPrintedInWhatIsNotRight(t *testing.T) {
	list := append(wrongSystems(t), impl.Sys{States: []impl.State{{Out: many(70, 5)}, {}, {At: -1, Out: []int{math.MinInt, math.MaxInt}, Code: 9}, {Out: []int{1}}, {Out: []int{2}}, {Out: []int{3}}}},
		but(underWay(t), func(s *impl.Sys) { s.States[0].Out = []int{4, 4} }))
	for _, s := range list {
		for _, p := range append(wild(), 6, 7) {
			want := []int{}
			if p >= 0 && p < len(s.States) {
				want = s.States[p].Out
			}
			if got := impl.Printed(s, p); !slices.Equal(got, want) {
				t.Errorf("Printed(%+v, %d) is %v", s, p, got)
			}
		}
	}
}

func TestDeedsWriteIntoNothingAndShareNothing(t *testing.T) {
	r := rand.New(rand.NewSource(23))
	odd := impl.Pick{P: -81, Peer: -82}
	for _, from := range stepSystems(t) {
		for i, given := range layings(from) {
			s, same := given()
			for _, count := range []int{0, 1, 30, 200, 201} {
				picks := append(somePicks(r, max(len(s.Progs), 1), count), odd, odd)
				kept := slices.Clone(picks)
				want, told := wantRun(from, picks[:count])
				got, codes := impl.Run(s, picks[:count])
				again, others := impl.Run(s, picks[:count])
				if !slices.Equal(codes, told) || !sameSys(got, want) || !same() || !slices.Equal(picks, kept) {
					t.Fatalf("%d: Run(%+v, %v) is %+v, %v, or wrote into it", i, from, picks, got, codes)
				}
				overwrite(codes)
				holdApart(t, got)
				if !same() || !sameSys(again, want) || !slices.Equal(others, told) || !slices.Equal(picks, kept) {
					t.Fatalf("%d: what comes of Run(%+v, %v) is shared", i, from, picks)
				}
			}
			for _, rounds := range []int{-1, 0, 1, 7, 61} {
				want, told := wantFair(from, rounds)
				got, n := impl.Fair(s, rounds)
				again, _ := impl.Fair(s, rounds)
				if n != told || !sameSys(got, want) || !same() {
					t.Fatalf("%d: Fair(%+v, %d) is %+v, %d, or wrote into it", i, from, rounds, got, n)
				}
				holdApart(t, got)
				if !same() || !sameSys(again, want) {
					t.Fatalf("%d: what comes of Fair(%+v, %d) is shared", i, from, rounds)
				}
			}
			for p := -1; p <= len(s.States); p++ {
				out, again := impl.Printed(s, p), impl.Printed(s, p)
				want := slices.Clone(again)
				overwrite(out)
				if !same() || !slices.Equal(again, want) || !slices.Equal(impl.Printed(s, p), want) {
					t.Fatalf("%d: what %d printed is shared: %+v", i, p, from)
				}
			}
		}
	}
}

// One list in several places of the argument comes out as several.
func TestDeedsTellApartWhatIsOne(t *testing.T) {
	for n := 1; n <= 4; n++ {
		list := program(t, "send 0 0", "jump 0")
		regs, marks := make([]int, 4, 9), append(make([]impl.Item, 0, 20), impl.Item{Mark: true})
		s := impl.Sys{Progs: slices.Repeat([][]impl.Ins{list}, n), States: slices.Repeat([]impl.State{{Regs: regs, Out: regs[:0]}}, n),
			Ways: slices.Repeat([][]impl.Item{marks}, n*n), Hist: slices.Repeat([][]impl.Event{make([]impl.Event, 0, 9)}, n)}
		kept := cloneSys(s)
		wrong := but(s, func(s *impl.Sys) { s.States[0].At = 1 })
		wrong.Progs, wrong.Ways = s.Progs, s.Ways
		for _, from := range []impl.Sys{s, wrong} {
			for _, count := range []int{0, 1, 8, 201} {
				got, _ := impl.Run(from, each(many(count, n-1)...))
				holdApart(t, got)
			}
			for _, rounds := range []int{0, 1, 5} {
				got, _ := impl.Fair(from, rounds)
				holdApart(t, got)
			}
		}
		if !sameSys(s, kept) || marks[:2][1] != (impl.Item{}) || s.Hist[0][:1][0] != (impl.Event{}) || !slices.Equal(regs[:9], make([]int, 9)) {
			t.Fatalf("it was written into: %+v", s)
		}
	}
}

// Many at once from one system: each tells what one alone tells, and nobody is left working behind them.
func TestManyDeedsAtOnce(t *testing.T) {
	r := rand.New(rand.NewSource(24))
	before := runtime.NumGoroutine()
	for range 20 {
		s := someSys(r, r.Intn(60))
		picks := somePicks(r, len(s.Progs), 100)
		want, told := wantRun(s, picks)
		rounds, steps := wantFair(s, 30)
		var all sync.WaitGroup
		for range 16 {
			all.Go(func() {
				if got, codes := impl.Run(s, picks); !sameSys(got, want) || !slices.Equal(codes, told) {
					t.Errorf("Run(%+v, %v) is %+v, %v", s, picks, got, codes)
				}
				if got, n := impl.Fair(s, 30); !sameSys(got, rounds) || n != steps {
					t.Errorf("Fair(%+v, 30) is %+v, %d", s, got, n)
				}
			})
		}
		all.Wait()
	}
	// One that is joined may still be about to end.
	for range 1000 {
		if runtime.NumGoroutine() <= before {
			return
		}
		time.Sleep(time.Millisecond)
	}
	t.Error("left working:", runtime.NumGoroutine()-before)
}
