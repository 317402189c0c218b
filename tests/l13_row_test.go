package tests

import (
	"math"
	"math/rand"
	"slices"
	"testing"

	"loop.example/g00196/impl"
)

// turns is the row in which these processes come in turn, each with its next event.
func turns(procs ...int) []impl.Who {
	next, row := map[int]int{}, []impl.Who{}
	for _, p := range procs {
		row = append(row, impl.Who{P: p, I: next[p]})
		next[p]++
	}
	return row
}

// blocks has all events of the first process, then all of the second, and so on: each once, whatever took what.
func blocks(s impl.Sys) []impl.Who {
	row := []impl.Who{}
	for _, x := range all(s) {
		row = append(row, impl.Who{P: x.p, I: x.i})
	}
	return row
}

func oneOf(w impl.Who) one { return one{w.P, w.I} }

// isRow, rowOf, redone and swapped tell chapter 13 once more. isRow goes by the place at which each event stands, not along the row.
func (tell telling) isRow(row []impl.Who) bool {
	if !tell.right || len(row) != events(tell.s) {
		return false
	}
	place := map[one]int{}
	for k, w := range row {
		if !tell.has(oneOf(w)) {
			return false
		}
		place[oneOf(w)] = k
	}
	if len(place) != len(row) {
		return false
	}
	for x, k := range place {
		if x.i > 0 && place[one{x.p, x.i - 1}] > k {
			return false
		}
		if from, takes := tell.senders[x]; takes && place[from] > k {
			return false
		}
	}
	return true
}

// canCome tells whether the next event of p can stand behind so many first events of each.
func (tell telling) canCome(had []int, p int) bool {
	x := one{p, had[p]}
	from, takes := tell.senders[x]
	return tell.has(x) && (!takes || from.i < had[from.p])
}

// putBy has, place by place, who is chosen among those who can come.
func (tell telling) putBy(choose func(can []int) int) []impl.Who {
	procs := []int{}
	if !tell.right {
		return turns()
	}
	for had := make([]int, len(tell.s.Hist)); len(procs) < events(tell.s); {
		can := []int{}
		for p := range had {
			if tell.canCome(had, p) {
				can = append(can, p)
			}
		}
		p := choose(can)
		procs = append(procs, p)
		had[p]++
	}
	return turns(procs...)
}

func (tell telling) rowOf() []impl.Who {
	return tell.putBy(func(can []int) int { return can[0] })
}

// someRow is a row by chance; with a leaning one process goes on as long as it can.
func (tell telling) someRow(r *rand.Rand, lean bool) []impl.Who {
	last := -1
	return tell.putBy(func(can []int) int {
		if !lean || !slices.Contains(can, last) {
			last = can[r.Intn(len(can))]
		}
		return last
	})
}

// rows is each row that there is.
func (tell telling) rows() [][]impl.Who {
	list := [][]impl.Who{}
	had := make([]int, len(tell.s.Hist))
	var goOn func(procs []int)
	goOn = func(procs []int) {
		if len(procs) == events(tell.s) {
			list = append(list, turns(procs...))
		}
		for p := range had {
			if tell.canCome(had, p) {
				had[p]++
				goOn(append(slices.Clone(procs), p))
				had[p]--
			}
		}
	}
	goOn(nil)
	return list
}

func (tell telling) redone(row []impl.Who) (impl.Sys, bool) {
	if !tell.isRow(row) {
		return impl.Sys{}, false
	}
	s := wantNew(tell.s.Progs...)
	for _, w := range row {
		if !play(&s, w.P, tell.s.Hist[w.P][w.I].Peer) {
			return impl.Sys{}, false
		}
	}
	return s, true
}

func (tell telling) swapped(row []impl.Who, k int) ([]impl.Who, bool) {
	if !tell.isRow(row) || k < 0 || k >= len(row)-1 || tell.sign(oneOf(row[k]), oneOf(row[k+1])) != "|" {
		return nil, false
	}
	return slices.Concat(row[:k], []impl.Who{row[k+1], row[k]}, row[k+2:]), true
}

// holdRow holds Row against what is told once more, and that it is a row; it answers it.
func holdRow(t *testing.T, what string, tell telling) []impl.Who {
	t.Helper()
	row := impl.Row(tell.s)
	if want := tell.rowOf(); !slices.Equal(row, want) {
		t.Fatalf("%s: Row(%+v) is %v, not %v", what, tell.s, row, want)
	}
	if got := impl.RowOk(tell.s, row); got != tell.right {
		t.Fatalf("%s: RowOk(%+v, %v) is %v", what, tell.s, row, got)
	}
	return row
}

// holdRowIs holds Row to what is said of it, and all else of it.
func holdRowIs(t *testing.T, what string, s impl.Sys, want []impl.Who) {
	t.Helper()
	tell := tellingOf(s)
	if row := holdRow(t, what, tell); !slices.Equal(row, want) {
		t.Errorf("%s: Row(%+v) is %v, not %v", what, s, row, want)
	}
	holdIsRow(t, what, tell, want, true)
}

// holdRedo holds Redo against what is told once more, and that what is done again is what there was; it tells whether it is done.
func holdRedo(t *testing.T, what string, tell telling, row []impl.Who) bool {
	t.Helper()
	got, ok := impl.Redo(tell.s, row)
	want, told := tell.redone(row)
	if ok != told || !sameSys(got, want) {
		t.Fatalf("%s: Redo(%+v, %v) is %+v, %v, not %+v, %v", what, tell.s, row, got, ok, want, told)
	}
	if ok && (!sameSys(got, noMarks(tell.s)) || !impl.SysOk(got)) || !ok && !isZeroSys(got) {
		t.Fatalf("%s: Redo(%+v, %v) is %+v, %v", what, tell.s, row, got, ok)
	}
	return ok
}

// holdSwap holds Swap against what is told once more, and that it leaves a row that comes back by the same; it tells whether it is done.
func holdSwap(t *testing.T, what string, tell telling, row []impl.Who, k int) bool {
	t.Helper()
	s := tell.s
	got, ok := impl.Swap(s, row, k)
	if want, told := tell.swapped(row, k); ok != told || !slices.Equal(got, want) {
		t.Fatalf("%s: Swap(%+v, %v, %d) is %v, %v, not %v, %v", what, s, row, k, got, ok, want, told)
	}
	if !ok {
		return false
	}
	if !impl.RowOk(s, got) {
		t.Fatalf("%s: Swap(%+v, %v, %d) is no row: %v", what, s, row, k, got)
	}
	if back, again := impl.Swap(s, got, k); !again || !slices.Equal(back, row) {
		t.Fatalf("%s: Swap(%+v, %v, %d) and once more is %v, %v", what, s, row, k, back, again)
	}
	return true
}

// holdIsRow holds RowOk of a row against what is told once more and what is said of it, and Redo and Swap of it.
func holdIsRow(t *testing.T, what string, tell telling, row []impl.Who, want bool) {
	t.Helper()
	if tell.isRow(row) != want {
		t.Fatalf("%s: told once more %v is not %v as a row of %+v", what, row, want, tell.s)
	}
	if got := impl.RowOk(tell.s, row); got != want {
		t.Fatalf("%s: RowOk(%+v, %v) is %v", what, tell.s, row, got)
	}
	done := holdRedo(t, what, tell, row)
	for k := -1; k <= len(row); k++ {
		if swapped := holdSwap(t, what, tell, row, k); !want && swapped {
			t.Fatalf("%s: Swap(%+v, %v, %d) is done", what, tell.s, row, k)
		}
	}
	if !want && done {
		t.Fatalf("%s: Redo(%+v, %v) is done", what, tell.s, row)
	}
}

// holdNoRow holds, of s whatever it is, that a row is none.
func holdNoRow(t *testing.T, what string, s impl.Sys, row []impl.Who) {
	t.Helper()
	got, ok := impl.Redo(s, row)
	if impl.RowOk(s, row) || ok || !isZeroSys(got) {
		t.Fatalf("%s: of %v in %+v RowOk is %v, and Redo %+v, %v", what, row, s, impl.RowOk(s, row), got, ok)
	}
	for _, k := range []int{math.MinInt, -1, 0, 1, 2, len(row) - 2, len(row) - 1, len(row), math.MaxInt - 1, math.MaxInt} {
		if other, ok := impl.Swap(s, row, k); ok || len(other) != 0 {
			t.Fatalf("%s: Swap(%+v, %v, %d) is %v, %v", what, s, row, k, other, ok)
		}
	}
}

// meetings are systems of each kind of meeting, all of them right.
func meetings(t *testing.T) []impl.Sys {
	return []impl.Sys{relayed(t, 10), relayed(t, 7), talk(t), underWay(t), crowd(t), stairs(t, 2), stairs(t, 4), ring(1, 3, 1), ring(3, 5, 2), ring(4, 4, 4),
		roundTrip(t, []int{1, 2, 0}, 3), roundTrip(t, []int{2, 1, 0}, 3), chain(t, []int{2, 0, 3, 1}, 1), chain(t, []int{3, 2, 1, 0}, 0), gate(t, []int{0, 2, 1}, 10),
		flow(t, 3, 2, 1, 8, 5), sends(t, 12, 0), takesFrom(t, 2, 0, 1, 1)}
}

func TestNoRowsOfWhatIsNotRight(t *testing.T) {
	for _, s := range append(wrongSystems(t), wrongInOne(t)...) {
		if wantSysOk(s) {
			t.Fatalf("it is right: %+v", s)
		}
		if row := impl.Row(s); len(row) != 0 {
			t.Fatalf("Row(%+v) is %v", s, row)
		}
		for _, row := range [][]impl.Who{nil, {}, {{}}, {{}, {P: 1}}, {{P: 1}, {}}, {{P: -1, I: -1}}, blocks(s)} {
			holdNoRow(t, "not right", s, row)
		}
	}
}

// A row of what was right is none where one thing is wrong, wherever.
func TestNoRowsWhereOneThingIsWrong(t *testing.T) {
	for _, right := range []impl.Sys{relayed(t, 10), relayed(t, 0), underWay(t), talk(t)} {
		row := holdRow(t, "right", tellingOf(right))
		last := len(right.Progs) - 1
		for _, wrong := range []impl.Sys{
			but(right, func(s *impl.Sys) { s.States[last].Regs[3]++ }),
			but(right, func(s *impl.Sys) { s.States[0].At++ }),
			but(right, func(s *impl.Sys) { s.States[0].Code = 3 }),
			but(right, func(s *impl.Sys) { s.Ways[len(s.Ways)-1] = []impl.Item{{V: 1}} }),
			but(right, func(s *impl.Sys) { s.Ways[0] = []impl.Item{{Mark: true, V: 1}} }),
			but(right, func(s *impl.Sys) { s.Ways[0] = slices.Repeat([]impl.Item{{Mark: true}}, 13) }),
			but(right, func(s *impl.Sys) { s.Progs[last] = append(s.Progs[last], impl.Ins{}) }),
			but(right, func(s *impl.Sys) { s.Hist = append(s.Hist, nil) }),
		} {
			if wantSysOk(wrong) || len(impl.Row(wrong)) != 0 {
				t.Fatalf("Row(%+v) is %v", wrong, impl.Row(wrong))
			}
			holdNoRow(t, "one thing is wrong", wrong, row)
			holdNoRow(t, "one thing is wrong", wrong, nil)
		}
	}
}

// Events that go round in a circle, each take ahead of what it hangs on, are in no row.
func TestNoRowsOfEventsInACircle(t *testing.T) {
	progs := [][]impl.Ins{program(t, "take 0 1", "send 1 0", "end"), program(t, "take 0 0", "send 0 0", "end")}
	s := wantNew(progs...)
	for p := range 2 {
		s.Hist[p] = []impl.Event{{Kind: impl.EvTake, Peer: 1 - p}, {Kind: impl.EvSend, Peer: 1 - p}}
		s.States[p].At = 2
	}
	if row := impl.Row(s); len(row) != 0 {
		t.Errorf("%v", row)
	}
	for _, procs := range [][]int{{0, 0, 1, 1}, {0, 1, 0, 1}, {0, 1, 1, 0}, {1, 0, 0, 1}, {1, 0, 1, 0}, {1, 1, 0, 0}} {
		holdNoRow(t, "a circle", s, turns(procs...))
	}
}

func TestRowsOfNoEvents(t *testing.T) {
	for n := 1; n <= 4; n++ {
		fresh := wantNew(slices.Repeat([][]impl.Ins{program(t, "take 0 any", "send 0 0", "end")}, n)...)
		for _, s := range []impl.Sys{fresh, marked(fresh)} {
			tell := tellingOf(s)
			holdRowIs(t, "no events", s, nil)
			for _, row := range [][]impl.Who{nil, {}, make([]impl.Who, 0, 9)} {
				holdIsRow(t, "no events", tell, row, true)
				if got, ok := impl.Redo(s, row); !ok || !sameSys(got, fresh) {
					t.Errorf("Redo(%+v) is %+v, %v", s, got, ok)
				}
				for _, k := range append(wild(), -2, math.MaxInt-1) {
					if holdSwap(t, "no events", tell, row, k) {
						t.Errorf("Swap at %d is done", k)
					}
				}
			}
			for _, row := range [][]impl.Who{{{}}, {{P: n - 1}}, {{P: -1}}, {{P: n}}, {{I: -1}}, {{I: 1}}, {{}, {}}, {{}, {P: 1}}} {
				holdIsRow(t, "an event that there is not", tell, row, false)
				holdNoRow(t, "an event that there is not", s, row)
			}
		}
	}
}

// Where there are events, a row of none is none.
func TestRowsOfNothing(t *testing.T) {
	for _, s := range meetings(t) {
		tell := tellingOf(s)
		for _, row := range [][]impl.Who{nil, {}, make([]impl.Who, 0, 9)} {
			holdIsRow(t, "nothing", tell, row, false)
			holdNoRow(t, "nothing", s, row)
		}
	}
}

func TestRowsSpelledOut(t *testing.T) {
	// The first goes on until it waits; what the second sends back lets it come first again.
	holdRowIs(t, "there and back", relayed(t, 10), turns(0, 0, 1, 1, 1, 1, 0, 0, 0, 1))
	holdRowIs(t, "on its way back", relayed(t, 6), turns(0, 0, 1, 1, 1, 1))
	holdRowIs(t, "on its way there", relayed(t, 3), turns(0, 0, 1))
	holdRowIs(t, "two that talk", underWay(t), turns(0, 0, 0, 0, 0, 0, 1, 1, 1))
	// The first takes what was sent back by event 1 of the second.
	back := played(t, pair(t), 0, 0, 0, 0, 1, 1, 1, 0, 0, 0, 0, 0)
	holdRowIs(t, "sent back", back, turns(0, 0, 0, 0, 0, 0, 1, 1, 0, 0, 0, 1))
	holdRowIs(t, "three that talk", talk(t), turns(0, 0, 0, 0, 0, 0, 0, 0, 1, 1, 1, 1, 1, 2, 2, 2, 2))
	holdRowIs(t, "alone", stairs(t, 1), turns())
	holdRowIs(t, "by twos", stairs(t, 2), turns(0, 0))
	holdRowIs(t, "who never met", stairs(t, 4), turns(0, 0, 0, 0, 0, 0, 1, 1, 1, 1, 2, 2))
	// Who comes last in its number is the one that all wait for.
	down := played(t, [][]impl.Ins{program(t, "take 0 1", "end"), program(t, "take 0 2", "send 0 0", "end"), program(t, "set 0 5", "send 1 0", "end")}, 2, 2, 2, 1, 1, 1, 0, 0)
	holdRowIs(t, "each waits for the next", down, turns(2, 2, 1, 1, 0, 0, 1, 2))
	up := played(t, [][]impl.Ins{program(t, "set 0 5", "send 1 0", "end"), program(t, "take 0 0", "send 2 0", "end"), program(t, "take 0 1", "end")}, 0, 0, 0, 1, 1, 1, 2, 2)
	holdRowIs(t, "each waits for the one ahead", up, turns(0, 0, 0, 1, 1, 1, 2, 2))
}

func TestRowsOfThoseWhoWaitForEachOther(t *testing.T) {
	// Each takes what the other sent, and then sends.
	list := func(peer string) []impl.Ins {
		return program(t, "set 0 5", "send "+peer+" 0", "take 1 "+peer, "send "+peer+" 1", "take 2 "+peer, "end")
	}
	crossed := played(t, [][]impl.Ins{list("1"), list("0")}, 0, 0, 1, 1, 0, 1, 0, 1, 0, 1)
	other := played(t, [][]impl.Ins{list("1"), list("0")}, 1, 1, 0, 0, 0, 0, 1, 1, 1, 0, 1, 0)
	holdRowIs(t, "crossed", crossed, turns(0, 0, 1, 1, 0, 0, 1, 1, 0, 1))
	holdRowIs(t, "crossed, and ended", other, turns(0, 0, 1, 1, 0, 0, 1, 1, 0, 0, 1, 1))
	// Round and round: in each round the last one must send ahead of all others but the first.
	for _, order := range threes() {
		for rounds := 1; rounds <= 4; rounds++ {
			s := roundTrip(t, order, rounds)
			holdIsRow(t, "round", tellingOf(s), holdRow(t, "round", tellingOf(s)), true)
		}
	}
	for _, order := range orders() {
		s := chain(t, order, 0)
		row := holdRow(t, "a chain", tellingOf(s))
		holdIsRow(t, "a chain", tellingOf(s), row, true)
		// Who sends first in the order comes first in the row, whatever its number.
		if row[0].P != order[0] {
			t.Errorf("the first of %v is %v", order, row)
		}
	}
}

func TestRowsOfOneself(t *testing.T) {
	for n := 1; n <= 4; n++ {
		for p := range n {
			for _, from := range []int{p, impl.Any} {
				progs := slices.Repeat([][]impl.Ins{program(t, "set 0 1", "end")}, n)
				send, take := impl.Ins{Op: impl.OpSend, N: p}, impl.Ins{Op: impl.OpTake, N: from}
				progs[p] = []impl.Ins{send, send, take, send, take, take, {Op: impl.OpEnd}}
				s := wantNew(progs...)
				for range 7 {
					for q := range n {
						play(&s, q, q)
					}
				}
				procs := []int{}
				for q, count := range counts(s) {
					procs = append(procs, many(count, q)...)
				}
				holdRowIs(t, "to oneself", s, turns(procs...))
				slices.Reverse(procs)
				holdIsRow(t, "to oneself, the other way round", tellingOf(s), turns(procs...), true)
			}
		}
	}
	holdRowIs(t, "alone", sends(t, 12, 0), turns(many(24, 0)...))
}

// An event that went wrong, or is the end, is an event like others.
func TestRowsOfWhatWentWrong(t *testing.T) {
	progs := [][]impl.Ins{program(t, "take 0 2"), program(t, "set 0 40000", "mul 0 0 0", "end"), program(t, "send 0 0"), program(t, "end")}
	s := played(t, progs, 2, 3, 1, 1, 0)
	for p, code := range []int{impl.StFault, impl.StFault, impl.StFault, impl.StEnd} {
		if s.States[p].Code != code {
			t.Fatalf("%+v", s)
		}
	}
	holdRowIs(t, "gone wrong", s, turns(1, 1, 2, 0, 3))
	holdIsRow(t, "gone wrong", tellingOf(s), turns(3, 2, 0, 1, 1), true)
	holdIsRow(t, "gone wrong", tellingOf(s), turns(0, 2, 3, 1, 1), false)
}

// Marks on the ways make no difference to a row; done again there are none.
func TestRowsOfWhatHasMarks(t *testing.T) {
	for _, s := range meetings(t) {
		with := marked(s)
		tell := tellingOf(with)
		row := holdRow(t, "marks", tell)
		if !slices.Equal(row, impl.Row(s)) || !impl.RowOk(s, row) || !impl.RowOk(with, row) {
			t.Errorf("%v", row)
		}
		holdIsRow(t, "marks", tell, row, true)
		plain, ok := impl.Redo(s, row)
		got, done := impl.Redo(with, row)
		if ok != done || !sameSys(got, plain) || done && !sameSys(got, s) {
			t.Errorf("Redo(%+v) is %+v, %v", with, got, done)
		}
	}
	// A way that is full of marks now is in nobody's way.
	s := but(relayed(t, 10), func(s *impl.Sys) {
		for i := range s.Ways {
			s.Ways[i] = slices.Repeat([]impl.Item{{Mark: true}}, 12)
		}
	})
	if got, ok := impl.Redo(s, impl.Row(s)); !ok || !sameSys(got, relayed(t, 10)) {
		t.Errorf("%+v, %v", got, ok)
	}
}

// Each event that is left out, wherever, makes it none; so does each that is there once more, wherever.
func TestRowsWithTooFewAndTooMany(t *testing.T) {
	for _, s := range meetings(t) {
		tell := tellingOf(s)
		row := holdRow(t, "right", tell)
		for k, w := range row {
			short := slices.Delete(slices.Clone(row), k, k+1)
			holdNoRow(t, "one left out", s, short)
			holdNoRow(t, "a beginning", s, row[:k])
			holdNoRow(t, "an end", s, row[k+1:])
			for _, at := range []int{0, k, k + 1, len(row)} {
				holdNoRow(t, "one twice", s, slices.Insert(slices.Clone(row), at, w))
				// In place of another the count is right.
				if at < len(row) && row[at] != w {
					twice := slices.Clone(row)
					twice[at] = w
					holdNoRow(t, "one in place of another", s, twice)
				}
			}
		}
		for p, events := range s.Hist {
			more := impl.Who{P: p, I: len(events)}
			holdNoRow(t, "one more at the end", s, append(slices.Clone(row), more))
			holdNoRow(t, "one more at the beginning", s, append([]impl.Who{more}, row...))
		}
		holdNoRow(t, "all of it twice", s, append(slices.Clone(row), row...))
		// The room behind what is handed in is none of it.
		long := append(slices.Clone(row), row...)
		if !impl.RowOk(s, long[:len(row)]) || impl.RowOk(s, long[:len(row)+1]) || len(row) > 0 && impl.RowOk(s, long[:len(row)-1]) {
			t.Errorf("RowOk of a part of %v", long)
		}
	}
}

// Two events of one process are never the other way round, however far apart they stand.
func TestRowsWithEventsOfOneTheOtherWayRound(t *testing.T) {
	pairs := 0
	for _, s := range meetings(t) {
		tell := tellingOf(s)
		row := holdRow(t, "right", tell)
		for k, x := range row {
			for m := k + 1; m < len(row); m++ {
				if row[m].P != x.P {
					continue
				}
				other := slices.Clone(row)
				other[k], other[m] = other[m], other[k]
				holdNoRow(t, "the other way round", s, other)
				if m == k+1 {
					if got, ok := impl.Swap(s, row, k); ok || len(got) != 0 {
						t.Fatalf("Swap(%+v, %v, %d) is %v, %v", s, row, k, got, ok)
					}
					pairs++
				}
			}
		}
	}
	if pairs < 100 {
		t.Error("few:", pairs)
	}
	// Alone, what one sends to itself too: only one order is one.
	s := played(t, [][]impl.Ins{program(t, "set 0 1", "set 0 1", "set 0 1", "end")}, 0, 0, 0)
	for _, order := range threes() {
		row := []impl.Who{{I: order[0]}, {I: order[1]}, {I: order[2]}}
		holdIsRow(t, "alone", tellingOf(s), row, slices.IsSorted(order))
	}
}

// A take stands behind its own send: that it stands behind another one, of the same number, is not enough.
func TestRowsWithATakeAheadOfItsSender(t *testing.T) {
	progs := [][]impl.Ins{program(t, "send 1 0", "send 1 0", "end"), program(t, "take 0 0", "take 0 0", "end")}
	s := played(t, progs, 0, 0, 1, 1)
	tell := tellingOf(s)
	for _, c := range []struct {
		procs []int
		want  bool
	}{{[]int{0, 0, 1, 1}, true}, {[]int{0, 1, 0, 1}, true}, {[]int{0, 1, 1, 0}, false}, {[]int{1, 0, 0, 1}, false}, {[]int{1, 0, 1, 0}, false}, {[]int{1, 1, 0, 0}, false}} {
		holdIsRow(t, "two takes", tell, turns(c.procs...), c.want)
	}
	// What another one sent, or was sent elsewhere, does not count.
	progs = [][]impl.Ins{program(t, "send 2 0", "end"), program(t, "send 2 0", "send 1 0", "end"), program(t, "take 0 any", "take 0 any", "end")}
	for _, order := range [][]int{{0, 1}, {1, 0}} {
		s := played(t, progs, 0, 1, 1)
		for _, peer := range order {
			play(&s, 2, peer)
		}
		tell := tellingOf(s)
		first := order[0]
		holdIsRow(t, "behind its own", tell, turns(first, 2, 1-first, 2, 1), true)
		holdIsRow(t, "behind the other's alone", tell, turns(1-first, 2, first, 2, 1), false)
		holdIsRow(t, "behind what was sent elsewhere", tell, turns(1, 1, 2, 0, 2), first == 1)
		holdIsRow(t, "behind both", tell, turns(1, 0, 2, 2, 1), true)
	}
	// Each take of a row just ahead of its send, with all of its process ahead of it left where it stands.
	takes := 0
	for _, s := range meetings(t) {
		tell := tellingOf(s)
		row := holdRow(t, "right", tell)
		for k := range len(row) - 1 {
			x, y := oneOf(row[k]), oneOf(row[k+1])
			if from, ok := tell.senders[y]; ok && from == x && x.p != y.p {
				other := slices.Clone(row)
				other[k], other[k+1] = other[k+1], other[k]
				holdIsRow(t, "just ahead of its send", tell, other, false)
				if holdSwap(t, "a take and its send", tell, row, k) {
					t.Fatalf("Swap(%+v, %v, %d) is done", s, row, k)
				}
				takes++
			}
		}
	}
	if takes < 10 {
		t.Error("few:", takes)
	}
}

func TestRowsWithWhatIsNoEvent(t *testing.T) {
	for n := 1; n <= 4; n++ {
		progs := slices.Repeat([][]impl.Ins{program(t, "set 0 1", "send 0 0", "jump 0")}, n)
		list := []int{}
		for p := range n {
			list = append(list, many(p+2, p)...)
		}
		s := played(t, progs, list...)
		tell := tellingOf(s)
		row := holdRow(t, "right", tell)
		for k, w := range row {
			for _, p := range append(wild(), -n, -2, n-1, n, n+1, 2*n, 200) {
				other := slices.Clone(row)
				other[k].P = p
				holdIsRow(t, "a P", tell, other, p == w.P)
			}
			for _, i := range append(wild(), -2, w.I-1, w.I, w.I+1, w.P+1, w.P+2, w.P+3, 199, 200, 201) {
				other := slices.Clone(row)
				other[k].I = i
				holdIsRow(t, "an I", tell, other, i == w.I)
			}
			other := slices.Clone(row)
			other[k] = impl.Who{P: w.I, I: w.P}
			holdIsRow(t, "P for I", tell, other, w.P == w.I)
		}
		for _, w := range []impl.Who{{P: -1}, {P: n}, {P: n, I: -1}, {I: -1}, {I: 2}, {P: math.MaxInt}, {P: math.MinInt}, {I: math.MaxInt}, {I: math.MinInt}, {P: math.MinInt, I: math.MaxInt}} {
			holdNoRow(t, "one more that is none, at the end", s, append(slices.Clone(row), w))
			holdNoRow(t, "one more that is none, at the beginning", s, append([]impl.Who{w}, row...))
			holdNoRow(t, "nothing but such", s, slices.Repeat([]impl.Who{w}, len(row)))
		}
	}
	s := relayed(t, 10)
	holdNoRow(t, "very long", s, make([]impl.Who, 100000))
	holdNoRow(t, "very long behind what is right", s, append(impl.Row(s), make([]impl.Who, 100000)...))
}

// small are systems of few events, so that all orders can be gone through.
func small(t *testing.T) []impl.Sys {
	trio := [][]impl.Ins{program(t, "send 1 0", "send 2 0", "end"), program(t, "take 0 0", "send 2 0", "end"), program(t, "take 0 any", "take 0 any", "end")}
	late := played(t, trio, 0, 0, 1, 1)
	play(&late, 2, 1)
	play(&late, 2, 0)
	four := slices.Repeat([][]impl.Ins{program(t, "send 3 0", "end")}, 3)
	return []impl.Sys{relayed(t, 6), marked(relayed(t, 5)), late, played(t, trio, 0, 0, 1, 1, 2, 2), played(t, trio, 0, 1, 1, 2), stairs(t, 3),
		played(t, append(four, program(t, "take 0 any", "take 0 any", "take 0 any", "end")), 0, 1, 3, 2, 3),
		played(t, [][]impl.Ins{program(t, "send 0 0", "take 0 0", "send 1 0", "end"), program(t, "send 1 0", "take 0 any", "take 0 any", "end")}, 0, 0, 0, 1, 1, 1)}
}

// permuted calls with each order of a list.
func permuted(list []impl.Who, k int, do func(list []impl.Who)) {
	if k == len(list) {
		do(list)
	}
	for m := k; m < len(list); m++ {
		list[k], list[m] = list[m], list[k]
		permuted(list, k+1, do)
		list[k], list[m] = list[m], list[k]
	}
}

func TestEachOrderOfFewEvents(t *testing.T) {
	for _, s := range small(t) {
		tell := tellingOf(s)
		right, wrong := 0, 0
		permuted(blocks(s), 0, func(row []impl.Who) {
			ok := impl.RowOk(s, row)
			if ok != tell.isRow(row) {
				t.Fatalf("RowOk(%+v, %v) is %v", s, row, ok)
			}
			if !ok {
				wrong++
				return
			}
			right++
			holdIsRow(t, "each order", tell, row, true)
			if got, done := impl.Redo(s, row); !done || !sameSys(got, noMarks(s)) {
				t.Fatalf("Redo(%+v, %v) is %+v, %v", s, row, got, done)
			}
		})
		if right != len(tell.rows()) || right != waysThrough(s, counts(s)) || wrong == 0 {
			t.Errorf("%d are rows, %d are not, of %+v", right, wrong, s)
		}
	}
}

// waysThrough is in how many ways one comes from nothing to a cut, by one event each time, through whole cuts alone: each of these is a row.
func waysThrough(s impl.Sys, cut []int) int {
	if !impl.Whole(s, cut) {
		return 0
	}
	ways := 0
	for p := range cut {
		if cut[p] > 0 {
			before := slices.Clone(cut)
			before[p]--
			ways += waysThrough(s, before)
		}
	}
	return max(ways, 1-slices.Max(cut))
}

// In whatever order of its events a system is done again it is the same.
func TestDoneAgainInEachOrderItIsTheSame(t *testing.T) {
	rows := 0
	for _, s := range append(small(t), relayed(t, 10), relayed(t, 9), chain(t, []int{1, 3, 0, 2}, 0), chain(t, []int{3, 1, 2, 0}, 0)) {
		for _, given := range []impl.Sys{s, marked(s)} {
			tell := tellingOf(given)
			for _, row := range tell.rows() {
				if !impl.RowOk(given, row) || !holdRedo(t, "each row", tell, row) {
					t.Fatalf("Redo(%+v, %v) is not done", given, row)
				}
				rows++
			}
		}
	}
	if rows < 500 {
		t.Error("few:", rows)
	}
}

// A take from whichever is, done again, from whom it was, whoever comes first by another order.
func TestRedoTakesFromWhomItTook(t *testing.T) {
	progs := [][]impl.Ins{program(t, "set 0 10", "send 3 0", "end"), program(t, "set 0 11", "send 3 0", "end"), program(t, "set 0 12", "send 3 0", "end"),
		program(t, "take 0 any", "print 0", "take 0 any", "print 0", "take 0 any", "print 0", "end")}
	for _, order := range threes() {
		s := played(t, progs, 0, 0, 1, 1, 2, 2)
		for _, peer := range order {
			play(&s, 3, peer)
			play(&s, 3, peer)
		}
		tell := tellingOf(s)
		for _, sent := range threes() {
			procs := []int{}
			for _, p := range sent {
				procs = append(procs, p, p)
			}
			row := turns(append(procs, many(6, 3)...)...)
			got, ok := impl.Redo(s, row)
			if !ok || !slices.Equal(impl.Printed(got, 3), []int{10 + order[0], 10 + order[1], 10 + order[2]}) {
				t.Errorf("taken in the order %v, sent in the order %v: %+v, %v", order, sent, got, ok)
			}
			holdIsRow(t, "from whom it took", tell, row, true)
		}
	}
	// All numbers alike: only the events tell from whom.
	for _, order := range threes() {
		s := takesFrom(t, append(order, order...)...)
		if got, ok := impl.Redo(s, impl.Row(s)); !ok || !sameSys(got, s) {
			t.Errorf("taken in the order %v it is %+v, %v", order, got, ok)
		}
	}
}

// What was sent and not taken stands, done again, on its way in the order in which it was sent.
func TestRedoLeavesWhatIsOnTheWays(t *testing.T) {
	for n := 2; n <= 4; n++ {
		for way := range n * n {
			a, b := way/n, way%n
			if a == b {
				continue
			}
			for _, c := range [][2]int{{12, 0}, {12, 5}, {12, 12}, {1, 0}, {0, 0}, {5, 2}} {
				s := flow(t, n, a, b, c[0], c[1])
				got, ok := impl.Redo(s, impl.Row(s))
				if !ok || !sameSys(got, s) || len(impl.WayOf(got, a, b)) != c[0]-c[1] {
					t.Errorf("Redo(%+v) is %+v, %v", s, got, ok)
				}
			}
		}
	}
}

// sending is the row of flow in which so many numbers are on the way ahead of each take, as long as there are some to send.
func sending(a, b, sent, taken, room int) []impl.Who {
	procs, out, in := []int{a}, 0, 0
	for out < sent || in < taken {
		if out < sent && (out-in < room || in == taken) {
			procs = append(procs, a, a, a)
			out++
			continue
		}
		procs = append(procs, b, b)
		in++
	}
	return turns(procs...)
}

// A way takes MaxWay items and no more: an order in which one more would be on it is a row, but is not done.
func TestRedoWithWaysMetAndPassed(t *testing.T) {
	for n := 2; n <= 4; n++ {
		for way := range n * n {
			a, b := way/n, way%n
			if a == b {
				continue
			}
			s := flow(t, n, a, b, 20, 15)
			tell := tellingOf(s)
			for room := 1; room <= 20; room++ {
				row := sending(a, b, 20, 15, room)
				if !impl.RowOk(s, row) || !tell.isRow(row) {
					t.Fatalf("%v is no row of %+v", row, s)
				}
				if got := holdRedo(t, "so many on a way", tell, row); got != (room <= 12) {
					t.Fatalf("with %d on the way from %d to %d it is %v", room, a, b, got)
				}
			}
			// The least process first: where that is who sends, it sends all of them ahead of the first take.
			if got := holdRedo(t, "the row", tell, holdRow(t, "the row", tell)); got != (b < a) {
				t.Errorf("Redo of the row, from %d to %d, is %v", a, b, got)
			}
			for sent := 11; sent <= 14; sent++ {
				s := flow(t, n, a, b, sent, sent)
				row := sending(a, b, sent, sent, sent)
				if got := holdRedo(t, "all sent first", tellingOf(s), row); got != (sent <= 12) {
					t.Errorf("Redo of %d sent first is %v", sent, got)
				}
			}
		}
	}
}

// One swap can be the one that makes a way too full; what is behind it is a row still, and the swap back makes room again.
func TestASwapThatMakesAWayTooFull(t *testing.T) {
	s := flow(t, 2, 0, 1, 13, 13)
	tell := tellingOf(s)
	// Twelve numbers are on the way at place 38, where the first of them is taken; then the thirteenth is sent.
	row := turns(slices.Concat(many(38, 0), []int{1, 0, 0}, many(25, 1))...)
	if !impl.RowOk(s, row) || !holdRedo(t, "behind the take", tell, row) {
		t.Fatalf("%v", row)
	}
	other, ok := impl.Swap(s, row, 38)
	if !ok || !impl.RowOk(s, other) || holdRedo(t, "ahead of the take", tell, other) {
		t.Fatalf("%v, %v", other, ok)
	}
	back, ok := impl.Swap(s, other, 38)
	if !ok || !slices.Equal(back, row) || !holdRedo(t, "behind the take again", tell, back) {
		t.Errorf("%v, %v", back, ok)
	}
	holdIsRow(t, "ahead of the take", tell, other, true)
}

// What is right is not asked how much was on its ways: of such there may be no order that can be done.
func TestRedoOfWhatCanNotBeDone(t *testing.T) {
	for n := 1; n <= 4; n++ {
		for p := range n {
			s := toOneself(t, n, p)
			tell := tellingOf(s)
			row := holdRow(t, "too many to oneself", tell)
			if !slices.Equal(row, turns(many(22, p)...)) {
				t.Errorf("%v", row)
			}
			got, ok := impl.Redo(s, row)
			if ok || !isZeroSys(got) {
				t.Errorf("Redo(%+v) is %+v, %v", s, got, ok)
			}
			holdIsRow(t, "too many to oneself", tell, row, true)
		}
	}
}

func TestSwapSpelledOut(t *testing.T) {
	s := relayed(t, 10)
	row := turns(0, 0, 1, 1, 1, 1, 0, 0, 0, 1)
	// Beside events of one process: a send and what comes ahead of its take, and the ends of both.
	want := []bool{false, true, false, false, false, false, false, false, true}
	for k := -3; k <= 12; k++ {
		done := k >= 0 && k < len(want) && want[k]
		got, ok := impl.Swap(s, row, k)
		if ok != done || !ok && len(got) != 0 {
			t.Errorf("Swap at %d is %v, %v", k, got, ok)
		}
		holdSwap(t, "there and back", tellingOf(s), row, k)
	}
	if got, _ := impl.Swap(s, row, 1); !slices.Equal(got, turns(0, 1, 0, 1, 1, 1, 0, 0, 0, 1)) {
		t.Errorf("%v", got)
	}
	if got, _ := impl.Swap(s, row, 8); !slices.Equal(got, turns(0, 0, 1, 1, 1, 1, 0, 0, 1, 0)) {
		t.Errorf("%v", got)
	}
}

func TestSwapAtPlacesThatThereAreNot(t *testing.T) {
	for n := 1; n <= 4; n++ {
		// None of them met another, so that only the place is asked for.
		for count := range 4 {
			s := wantNew(slices.Repeat([][]impl.Ins{program(t, "set 0 1", "jump 0")}, n)...)
			procs := []int{}
			for range count {
				for p := range n {
					play(&s, p, 0)
					procs = append(procs, p)
				}
			}
			row, tell := turns(procs...), tellingOf(s)
			for _, k := range append(wild(), -2, len(row)-2, len(row)-1, len(row), len(row)+1, math.MaxInt-1, math.MinInt+1) {
				got := holdSwap(t, "a place or none", tell, row, k)
				if got != (n > 1 && k >= 0 && k <= len(row)-2) {
					t.Errorf("Swap of %v at %d is %v", row, k, got)
				}
			}
		}
	}
}

// Side by side is asked of the two events that stand there, not of who they are of: what hangs on another through a third stays.
func TestSwapGoesByWhatHangsOnWhat(t *testing.T) {
	for _, order := range orders() {
		s := chain(t, order, 1)
		tell := tellingOf(s)
		procs := []int{}
		for _, p := range order {
			procs = append(procs, many(len(s.Hist[p]), p)...)
		}
		row := turns(procs...)
		holdIsRow(t, "one behind the other", tell, row, true)
		for k := range len(row) - 1 {
			x, y := row[k], row[k+1]
			want := x.P != y.P
			if got, ok := impl.Swap(s, row, k); ok != want {
				t.Errorf("Swap of %v at %d is %v, %v", row, k, got, ok)
			}
			if ok := impl.Side(s, x.P, x.I, y.P, y.I); ok != want {
				t.Errorf("Side of %v and %v is %v", x, y, ok)
			}
		}
	}
	// Just behind its send a take stays where it is, and what is between them goes by.
	s := played(t, [][]impl.Ins{program(t, "send 1 0", "send 2 0", "end"), program(t, "take 0 0", "end"), program(t, "set 0 1", "take 0 any", "end")}, 0, 0, 0, 1, 1, 2, 2, 2)
	row := turns(0, 1, 0, 2, 2, 1, 0, 2)
	want := []bool{false, true, true, false, true, true, true}
	for k, done := range want {
		if got, ok := impl.Swap(s, row, k); ok != done {
			t.Errorf("Swap of %v at %d is %v, %v", row, k, got, ok)
		}
	}
	holdIsRow(t, "a take behind its send", tellingOf(s), row, true)
}

// Of what is no row nothing is the other way round, though the two that stand there are side by side.
func TestSwapOfWhatIsNoRow(t *testing.T) {
	s := stairs(t, 3)
	row := turns(0, 0, 0, 0, 1, 1)
	if got, ok := impl.Swap(s, row, 3); !ok || !slices.Equal(got, turns(0, 0, 0, 1, 0, 1)) {
		t.Fatalf("%v, %v", got, ok)
	}
	for _, other := range [][]impl.Who{row[:5], row[1:], row[3:], row[3:5], append(turns(0, 0, 0, 0, 1, 1), impl.Who{P: 2}), {{P: 0, I: 0}, {P: 1, I: 0}},
		{{I: 1}, {I: 0}, {I: 2}, {I: 3}, {P: 1}, {P: 1, I: 1}}, {{I: 0}, {I: 1}, {I: 2}, {I: 3}, {P: 1, I: 1}, {P: 1}}, {{I: 0}, {I: 0}, {I: 2}, {I: 3}, {P: 1}, {P: 1, I: 1}}} {
		holdIsRow(t, "no row", tellingOf(s), other, false)
		holdNoRow(t, "no row", s, other)
	}
	// That the swap would make a row of it does not help.
	for k := range 5 {
		other := slices.Clone(row)
		other[k], other[k+1] = other[k+1], other[k]
		if impl.RowOk(s, other) {
			continue
		}
		if got, ok := impl.Swap(s, other, k); ok || len(got) != 0 {
			t.Errorf("Swap of %v at %d is %v, %v", other, k, got, ok)
		}
	}
}

// Of two rows one comes to the other by swaps: whoever stands too late goes ahead, place by place, and nobody is in its way.
func TestSwapsLeadFromRowToRow(t *testing.T) {
	r := rand.New(rand.NewSource(90))
	swaps, redone := 0, 0
	list := meetings(t)
	for range 60 {
		list = append(list, someChat(r, r.Intn(30)), someSys(r, r.Intn(30)), someShow(r, r.Intn(30)))
	}
	for _, s := range list {
		tell := tellingOf(s)
		row, to := holdRow(t, "from", tell), tell.someRow(r, r.Intn(2) == 0)
		if len(row) > 60 {
			continue
		}
		for k, w := range to {
			for at := slices.Index(row, w); at > k; at-- {
				next, ok := impl.Swap(s, row, at-1)
				if !ok || !impl.RowOk(s, next) || next[at-1] != w || next[at] != row[at-1] {
					t.Fatalf("from %v to %v Swap at %d is %v, %v, in %+v", row, to, at-1, next, ok, s)
				}
				row = next
				swaps++
				if swaps%7 == 0 && holdRedo(t, "on the way", tell, row) {
					redone++
				}
			}
		}
		if !slices.Equal(row, to) {
			t.Fatalf("it is %v, not %v", row, to)
		}
	}
	if swaps < 2000 || redone < 200 {
		t.Error("few:", swaps, redone)
	}
}

// The order in which it came about is a row, and done again it is what came of it.
func TestHowItCameAboutIsARow(t *testing.T) {
	r := rand.New(rand.NewSource(91))
	done, other := 0, 0
	for range 150 {
		s := someChat(r, 0)
		if r.Intn(2) == 0 {
			s = someShow(r, 0)
		}
		n, procs := len(s.Progs), []int{}
		for range r.Intn(120) {
			p := r.Intn(n)
			after, code := impl.Step(s, p, r.Intn(n))
			if code == impl.RsDone {
				s = after
				procs = append(procs, p)
			}
		}
		row, tell := turns(procs...), tellingOf(s)
		if !impl.RowOk(s, row) || !holdRedo(t, "as it came about", tell, row) {
			t.Fatalf("Redo(%+v, %v) is not done", s, row)
		}
		done++
		if !slices.Equal(row, impl.Row(s)) {
			other++
		}
		// By Run of the same it comes to the same.
		picks := []impl.Pick{}
		for _, w := range row {
			picks = append(picks, impl.Pick{P: w.P, Peer: s.Hist[w.P][w.I].Peer})
		}
		fresh, _ := impl.SysNew(s.Progs)
		if got, _ := impl.Run(fresh, picks); !sameSys(got, s) {
			t.Fatalf("Run of %v is %+v, not %+v", picks, got, s)
		}
	}
	if done < 100 || other < 60 {
		t.Error("few:", done, other)
	}
}

// holdMoment holds of a whole cut that the system at it is right, has just the events of the cut, and goes on to where it was by the events behind it; it tells whether each of these is done.
func holdMoment(t *testing.T, s impl.Sys, cut []int, behind []impl.Who) (at, on bool) {
	t.Helper()
	if !impl.Whole(s, cut) {
		t.Fatalf("%v is not whole in %+v", cut, s)
	}
	then, ok := impl.At(s, cut)
	if !ok {
		return false, false
	}
	if !impl.SysOk(then) || !slices.Equal(impl.Full(then), cut) || !impl.Forth(then, s) {
		t.Fatalf("At(%+v, %v) is %+v", s, cut, then)
	}
	for _, w := range behind {
		after, code := impl.Step(then, w.P, s.Hist[w.P][w.I].Peer)
		if code == impl.RsFull {
			return true, false
		}
		if code != impl.RsDone || !impl.Forth(after, s) {
			t.Fatalf("behind %v, at %v, Step is %d in %+v", cut, w, code, s)
		}
		then = after
	}
	if !sameSys(then, noMarks(s)) {
		t.Fatalf("behind %v it is %+v, not %+v", cut, then, s)
	}
	return true, true
}

// Each beginning of a row is a whole cut; behind it the rest of the row leads to where it was.
func TestEachBeginningOfARowIsAWholeCut(t *testing.T) {
	r := rand.New(rand.NewSource(92))
	ats, ons, full := 0, 0, 0
	list := append(meetings(t), flow(t, 2, 0, 1, 20, 15), gate(t, []int{2, 0, 1}, 15))
	for range 40 {
		list = append(list, someChat(r, r.Intn(30)), someSys(r, r.Intn(30)), someShow(r, r.Intn(30)))
	}
	for _, s := range list {
		tell := tellingOf(s)
		for _, row := range [][]impl.Who{impl.Row(s), tell.someRow(r, false)} {
			cut := make([]int, len(s.Hist))
			for k := range len(row) + 1 {
				if k%3 == 0 || k == len(row) {
					at, on := holdMoment(t, s, cut, row[k:])
					switch {
					case on:
						ons++
					case at:
						ats++
					default:
						full++
					}
				}
				if k < len(row) {
					cut[row[k].P]++
				}
			}
		}
	}
	if ons < 500 || ats < 5 || full < 3 {
		t.Error("few:", ons, ats, full)
	}
}

// Each whole cut is the beginning of a row: the row of the system at it, and then the others in an order in which they can come.
func TestEachWholeCutBeginsARow(t *testing.T) {
	r := rand.New(rand.NewSource(93))
	wholes, taken := 0, 0
	for range 250 {
		s := someChat(r, r.Intn(60))
		if r.Intn(3) == 0 {
			s = someShow(r, r.Intn(60))
		}
		for range 3 {
			cut := impl.Close(s, someCut(r, s))
			then, ok := impl.At(s, cut)
			if !ok {
				continue
			}
			row := impl.Row(then)
			for _, w := range impl.Row(s) {
				if w.I >= cut[w.P] {
					row = append(row, w)
				}
			}
			if !impl.RowOk(s, row) {
				t.Fatalf("behind %v it is no row: %v, in %+v", cut, row, s)
			}
			holdMoment(t, s, cut, row[events(then):])
			wholes++
		}
		// What is taken back is the beginning of a row, too, and goes forth along it.
		if p := r.Intn(len(s.Hist)); len(s.Hist[p]) > 0 {
			then, code := impl.Back(s, p, r.Intn(len(s.Hist[p])))
			if code != impl.BkDone {
				continue
			}
			row := impl.Row(then)
			again, ok := impl.Redo(then, row)
			if !impl.RowOk(then, row) || impl.RowOk(s, row) || ok && !sameSys(again, then) || ok && (!impl.Forth(again, s) || impl.Forth(s, again)) {
				t.Fatalf("taken back it is %+v, and its row is %v, of %+v", then, row, s)
			}
			taken++
		}
	}
	if wholes < 500 || taken < 150 {
		t.Error("few:", wholes, taken)
	}
}

// crowded is four that send round and take, as long as events may come.
func crowded() impl.Sys {
	progs := [][]impl.Ins{}
	for p := range 4 {
		progs = append(progs, []impl.Ins{{Op: impl.OpSend, N: (p + 1) % 4}, {Op: impl.OpTake, N: impl.Any}, {Op: impl.OpJump}})
	}
	s := wantNew(progs...)
	for range 200 {
		for p := range 4 {
			play(&s, p, (p+3)%4)
		}
	}
	return s
}

func TestRowsOfAsManyEventsAsThereCanBe(t *testing.T) {
	s := crowded()
	tell := tellingOf(s)
	row := holdRow(t, "800 events", tell)
	if len(row) != 800 || !holdRedo(t, "800 events", tell, row) {
		t.Fatalf("%v", row)
	}
	r := rand.New(rand.NewSource(94))
	for range 6 {
		other := tell.someRow(r, r.Intn(2) == 0)
		if !impl.RowOk(s, other) || !holdRedo(t, "800 events", tell, other) {
			t.Fatalf("Redo of %v is not done", other)
		}
		for range 20 {
			holdSwap(t, "800 events", tell, other, r.Intn(800))
		}
		holdNoRow(t, "799 of them", s, other[:799])
		holdNoRow(t, "801 of them", s, append(slices.Clone(other), impl.Who{P: 3, I: 200}))
	}
	alone := worn(t, 3, 1, 200, "end")
	holdRowIs(t, "200 of one", alone, turns(many(200, 1)...))
}

// someSlip changes one thing of a row, which often makes it none.
func someSlip(r *rand.Rand, row []impl.Who) []impl.Who {
	row = slices.Clone(row)
	odd := impl.Who{P: r.Intn(5), I: r.Intn(5)}
	if r.Intn(3) == 0 {
		odd = impl.Who{P: wild()[r.Intn(len(wild()))], I: wild()[r.Intn(len(wild()))]}
	}
	if len(row) == 0 {
		return append(row, odd)
	}
	k, m := r.Intn(len(row)), r.Intn(len(row))
	switch r.Intn(8) {
	case 0:
		return slices.Delete(row, k, k+1)
	case 1:
		return slices.Insert(row, k, row[m])
	case 2:
		return slices.Insert(row, k, odd)
	case 3:
		row[k] = row[m]
	case 4:
		row[k] = odd
	case 5:
		row[k], row[m] = row[m], row[k]
	case 6:
		m = min(k+1, len(row)-1)
		row[k], row[m] = row[m], row[k]
	case 7:
		w := row[k]
		row = slices.Insert(slices.Delete(row, k, k+1), m, w)
	}
	return row
}

func TestRowsOfEventsByChance(t *testing.T) {
	r := rand.New(rand.NewSource(95))
	seen := map[string]int{}
	for range 900 {
		s := someSys(r, r.Intn(120))
		switch r.Intn(6) {
		case 0, 1:
			s = someChat(r, r.Intn(90))
		case 2, 3:
			s = someShow(r, r.Intn(90))
		case 4:
			a, taken := r.Intn(3), r.Intn(15)
			s = flow(t, 3, a, (a+1+r.Intn(2))%3, taken+r.Intn(13), taken)
		}
		if r.Intn(8) == 0 {
			someTurn(r, &s)
		}
		tell := tellingOf(s)
		if !tell.right {
			holdNoRow(t, "by chance", s, blocks(s))
			seen["not right"]++
		}
		row := holdRow(t, "by chance", tell)
		if tell.right && r.Intn(4) > 0 {
			row = tell.someRow(r, r.Intn(2) == 0)
		}
		if r.Intn(2) == 0 {
			row = someSlip(r, row)
		}
		is := impl.RowOk(s, row)
		if is != tell.isRow(row) {
			t.Fatalf("RowOk(%+v, %v) is %v", s, row, is)
		}
		done := holdRedo(t, "by chance", tell, row)
		switch {
		case !is && tell.right:
			seen["no row"]++
		case done:
			seen["done"]++
		case is:
			seen["too full"]++
		}
		for range 6 {
			k := r.Intn(len(row)+2) - 1
			if r.Intn(10) == 0 {
				k = wild()[r.Intn(len(wild()))]
			}
			if holdSwap(t, "by chance", tell, row, k) {
				seen["swapped"]++
			} else {
				seen["not swapped"]++
			}
		}
	}
	for what, least := range map[string]int{"not right": 40, "no row": 200, "done": 200, "too full": 20, "swapped": 300, "not swapped": 1000} {
		if seen[what] < least {
			t.Error("few:", what, seen)
		}
	}
}

// Done again in two orders, each of which is done, it is one system; so it is behind a swap.
func TestRedoInTwoOrdersIsOne(t *testing.T) {
	r := rand.New(rand.NewSource(96))
	both, swapped := 0, 0
	for range 400 {
		s := noMarks(someSys(r, r.Intn(80)))
		if r.Intn(2) == 0 {
			s = someShow(r, r.Intn(60))
		}
		tell := tellingOf(s)
		row, other := tell.someRow(r, false), tell.someRow(r, true)
		first, ok := impl.Redo(s, row)
		second, too := impl.Redo(s, other)
		if ok && too {
			if !sameSys(first, second) || !sameSys(first, s) || !impl.Forth(first, second) || !impl.Forth(second, first) {
				t.Fatalf("Redo of %v and of %v are %+v and %+v", row, other, first, second)
			}
			both++
		}
		for k := range len(row) - 1 {
			next, done := impl.Swap(s, row, k)
			if !done || r.Intn(4) > 0 {
				continue
			}
			if !impl.RowOk(s, next) {
				t.Fatalf("Swap of %v at %d is no row: %v", row, k, next)
			}
			if got, too := impl.Redo(s, next); ok && too && !sameSys(got, first) {
				t.Fatalf("behind Swap of %v at %d it is %+v, not %+v", row, k, got, first)
			}
			swapped++
		}
	}
	if both < 200 || swapped < 300 {
		t.Error("few:", both, swapped)
	}
}

// roomyRow is a row with room behind it, and a function that tells whether all is as it was.
func roomyRow(row []impl.Who) ([]impl.Who, func() bool) {
	room := append(slices.Clone(row), impl.Who{P: -81, I: -82}, impl.Who{P: -83, I: -84})
	kept := slices.Clone(room)
	return room[:len(row)], func() bool { return slices.Equal(room, kept) }
}

func TestRowsWriteIntoNothingAndShareNothing(t *testing.T) {
	r := rand.New(rand.NewSource(97))
	odd := impl.Who{P: -9, I: -9}
	seen := map[string]int{}
	list := append(append(stepSystems(t), meetings(t)...), toOneself(t, 2, 1), marked(talk(t)), flow(t, 2, 0, 1, 20, 15))
	for _, from := range list {
		tell := tellingOf(from)
		want := tell.rowOf()
		for i, given := range layings(from) {
			s, same := given()
			told, toldAgain := impl.Row(s), impl.Row(s)
			wipe([][]impl.Who{told}, odd)
			if !slices.Equal(toldAgain, want) || !same() {
				t.Fatalf("%d: Row(%+v) is shared, is %v, or wrote into it", i, from, toldAgain)
			}
			choices := [][]impl.Who{nil, want, blocks(from), someSlip(r, want)}
			if tell.right {
				choices = append(choices, tell.someRow(r, false))
			}
			for _, choice := range choices {
				row, sameRow := roomyRow(choice)
				if impl.RowOk(s, row) != tell.isRow(choice) || !same() || !sameRow() {
					t.Fatalf("%d: RowOk(%+v, %v) is wrong, or wrote into it", i, from, choice)
				}
				wantSys, wantOk := tell.redone(choice)
				got, ok := impl.Redo(s, row)
				again, _ := impl.Redo(s, row)
				if ok != wantOk || !sameSys(got, wantSys) || !same() || !sameRow() {
					t.Fatalf("%d: Redo(%+v, %v) is %+v, %v, or wrote into it", i, from, choice, got, ok)
				}
				holdApart(t, got)
				if !same() || !sameRow() || !sameSys(again, wantSys) {
					t.Fatalf("%d: what comes of Redo(%+v, %v) is shared", i, from, choice)
				}
				if ok {
					seen["redone"]++
				}
				for _, k := range []int{-1, 0, r.Intn(len(row) + 1), len(row) - 2, len(row) - 1} {
					wantRow, wantOk := tell.swapped(choice, k)
					other, ok := impl.Swap(s, row, k)
					otherAgain, _ := impl.Swap(s, row, k)
					wipe([][]impl.Who{other}, odd)
					if ok != wantOk || !slices.Equal(otherAgain, wantRow) || !same() || !sameRow() {
						t.Fatalf("%d: Swap(%+v, %v, %d) is %v, %v, is shared, or wrote into it", i, from, choice, k, otherAgain, ok)
					}
					if ok {
						seen["swapped"]++
					}
				}
			}
		}
	}
	if seen["redone"] < 400 || seen["swapped"] < 200 {
		t.Error("few:", seen)
	}
}

// One list in several places of the argument comes out as several.
func TestRowsTellApartWhatIsOne(t *testing.T) {
	for n := 1; n <= 4; n++ {
		list := append(make([]impl.Ins, 0, 9), program(t, "set 0 1", "print 0", "end")...)
		regs, marks := append(make([]int, 0, 9), 1, 0, 0, 0), append(make([]impl.Item, 0, 20), impl.Item{Mark: true})
		hist := append(make([]impl.Event, 0, 9), local(), impl.Event{Kind: impl.EvPrint, V: 1})
		state := impl.State{At: 2, Regs: regs, Out: regs[:1]}
		s := impl.Sys{Progs: slices.Repeat([][]impl.Ins{list}, n), States: slices.Repeat([]impl.State{state}, n),
			Ways: slices.Repeat([][]impl.Item{marks}, n*n), Hist: slices.Repeat([][]impl.Event{hist}, n)}
		kept, tell := cloneSys(s), tellingOf(s)
		row := holdRow(t, "one list", tell)
		holdIsRow(t, "one list", tell, row, true)
		got, ok := impl.Redo(s, row)
		if !ok || !sameSys(got, noMarks(s)) {
			t.Fatalf("Redo(%+v) is %+v, %v", s, got, ok)
		}
		holdApart(t, got)
		if !sameSys(s, kept) || list[:4][3] != (impl.Ins{}) || marks[:2][1] != (impl.Item{}) || hist[:3][2] != (impl.Event{}) || !slices.Equal(regs[:9], []int{1, 0, 0, 0, 0, 0, 0, 0, 0}) {
			t.Fatalf("it was written into: %+v", s)
		}
	}
}

// What was told stays what it was, whatever becomes of the system and of the row.
func TestRowsAreKept(t *testing.T) {
	for _, from := range meetings(t) {
		s := cloneSys(from)
		tell := tellingOf(from)
		row := impl.Row(s)
		want := slices.Clone(row)
		told, ok := impl.Redo(s, row)
		wantSys, wantOk := tell.redone(want)
		swaps, wantSwaps := [][]impl.Who{}, [][]impl.Who{}
		for k := range row {
			other, _ := impl.Swap(s, row, k)
			wantOther, _ := tell.swapped(want, k)
			swaps, wantSwaps = append(swaps, other), append(wantSwaps, wantOther)
		}
		later := impl.Row(s)
		holdApart(t, s)
		wipe([][]impl.Who{row}, impl.Who{P: -9, I: -9})
		if ok != wantOk || !sameSys(told, wantSys) || !slices.Equal(later, want) || !sameLists(swaps, wantSwaps) {
			t.Errorf("%+v, %v, %v", told, later, swaps)
		}
	}
}
