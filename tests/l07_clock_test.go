package tests

import (
	"math/rand"
	"slices"
	"testing"

	"loop.example/g00196/impl"
)

// one is event i of process p.
type one struct{ p, i int }

// all is each event that there is.
func all(s impl.Sys) []one {
	list := []one{}
	for p, events := range s.Hist {
		for i := range events {
			list = append(list, one{p, i})
		}
	}
	return list
}

// A telling is what chapter 7 says of a system, told once more; what is long to find is found once.
type telling struct {
	s     impl.Sys
	right bool
	// senders has the takes alone.
	senders map[one]one
}

// tellingOf draws the sends from one to another one by one, for each take from there.
func tellingOf(s impl.Sys) telling {
	tell := telling{s: s, right: wantSysOk(s), senders: map[one]one{}}
	if !tell.right {
		return tell
	}
	for a := range s.Hist {
		for b := range s.Hist {
			at := -1
			for i, e := range s.Hist[b] {
				if e.Kind != 3 || e.Peer != a {
					continue
				}
				at++
				for s.Hist[a][at].Kind != 2 || s.Hist[a][at].Peer != b {
					at++
				}
				tell.senders[one{b, i}] = one{a, at}
			}
		}
	}
	return tell
}

func (tell telling) has(x one) bool {
	return tell.right && x.p >= 0 && x.p < len(tell.s.Hist) && x.i >= 0 && x.i < len(tell.s.Hist[x.p])
}

func (tell telling) sender(x one) int {
	if from, ok := tell.senders[x]; ok {
		return from.i
	}
	return -1
}

// past is x, the one ahead of it and the one that sent what it took, those ahead of these and their senders, and so on.
func (tell telling) past(x one) map[one]bool {
	past := map[one]bool{x: true}
	for open := []one{x}; len(open) > 0; open = open[1:] {
		y := open[0]
		near := []one{}
		if y.i > 0 {
			near = append(near, one{y.p, y.i - 1})
		}
		if from, ok := tell.senders[y]; ok {
			near = append(near, from)
		}
		for _, z := range near {
			if !past[z] {
				past[z] = true
				open = append(open, z)
			}
		}
	}
	return past
}

// clock counts the past, process by process.
func (tell telling) clock(x one) []int {
	if !tell.has(x) {
		return nil
	}
	counts := make([]int, len(tell.s.Progs))
	for y := range tell.past(x) {
		counts[y.p]++
	}
	return counts
}

// sign is what x and y are to each other: `=` one event, `<` and `>` which of them comes first, `|` side by side, the empty text if not both are events.
func (tell telling) sign(x, y one) string {
	switch {
	case !tell.has(x) || !tell.has(y):
		return ""
	case x == y:
		return "="
	case tell.past(x)[y]:
		return ">"
	case tell.past(y)[x]:
		return "<"
	}
	return "|"
}

func hangs(s impl.Sys, x, y one) bool { return impl.Hangs(s, x.p, x.i, y.p, y.i) }

func side(s impl.Sys, x, y one) bool { return impl.Side(s, x.p, x.i, y.p, y.i) }

// holdOne holds Sender and Clock of one event, or of none.
func holdOne(t *testing.T, what string, tell telling, x one) {
	t.Helper()
	s := tell.s
	if got, want := impl.Sender(s, x.p, x.i), tell.sender(x); got != want {
		t.Errorf("%s: Sender(%+v, %d, %d) is %d, not %d", what, s, x.p, x.i, got, want)
	}
	if got, want := impl.Clock(s, x.p, x.i), tell.clock(x); !slices.Equal(got, want) {
		t.Errorf("%s: Clock(%+v, %d, %d) is %v, not %v", what, s, x.p, x.i, got, want)
	}
}

// holdTwo holds what x and y are to each other, both ways round, by the signs of a telling.
func holdTwo(t *testing.T, what string, s impl.Sys, x, y one, sign string) {
	t.Helper()
	got := [4]bool{hangs(s, x, y), hangs(s, y, x), side(s, x, y), side(s, y, x)}
	if want := [4]bool{sign == ">", sign == "<", sign == "|", sign == "|"}; got != want {
		t.Errorf("%s: %v and %v are %v, not %v, in %+v", what, x, y, got, want, s)
	}
}

// holdAll holds all events of s and all pairs of them against what is told once more, and then against each other alone.
func holdAll(t *testing.T, what string, s impl.Sys) {
	t.Helper()
	tell, list := tellingOf(s), all(s)
	on, beside := make([][]bool, len(list)), make([][]bool, len(list))
	for k, x := range list {
		holdOne(t, what, tell, x)
		past := tell.past(x)
		on[k], beside[k] = make([]bool, len(list)), make([]bool, len(list))
		for m, y := range list {
			on[k][m], beside[k][m] = hangs(s, x, y), side(s, x, y)
			if want := past[y] && x != y; on[k][m] != want {
				t.Fatalf("%s: Hangs of %v on %v is not %v in %+v", what, x, y, want, s)
			}
		}
	}
	for k, x := range list {
		clock := impl.Clock(s, x.p, x.i)
		for m, y := range list {
			holds := 0
			for _, is := range []bool{on[k][m], on[m][k], beside[k][m], x == y} {
				if is {
					holds++
				}
			}
			if holds != 1 || beside[k][m] != beside[m][k] {
				t.Fatalf("%s: %d of four hold of %v and %v in %+v", what, holds, x, y, s)
			}
			if on[k][m] != (clock[y.p] > y.i && x != y) {
				t.Fatalf("%s: Hangs of %v on %v, and its clock is %v, in %+v", what, x, y, clock, s)
			}
			if on[k][m] {
				holdAhead(t, what, s, on[k], on[m], clock, impl.Clock(s, y.p, y.i))
			}
		}
	}
}

// holdAhead holds of what hangs on another: all that that hangs on it hangs on, too, and its clock goes beyond that one's.
func holdAhead(t *testing.T, what string, s impl.Sys, later, earlier []bool, clock, before []int) {
	t.Helper()
	for third := range earlier {
		if earlier[third] && !later[third] {
			t.Fatalf("%s: it does not hang on what that hangs on, %v, in %+v", what, all(s)[third], s)
		}
	}
	more := false
	for p := range clock {
		if clock[p] < before[p] {
			t.Fatalf("%s: %v is not behind %v in %+v", what, clock, before, s)
		}
		more = more || clock[p] > before[p]
	}
	if !more {
		t.Fatalf("%s: two clocks are alike, %v, in %+v", what, clock, s)
	}
}

func TestNoClocksOfWhatIsNotRight(t *testing.T) {
	small := []int{-1, 0, 1, 2}
	for i, s := range wrongSystems(t) {
		if wantSysOk(s) {
			t.Fatal("it is right:", i)
		}
		for _, p := range wild() {
			for _, i := range wild() {
				if got, list := impl.Sender(s, p, i), impl.Clock(s, p, i); got != -1 || len(list) != 0 {
					t.Fatalf("Sender and Clock(%+v, %d, %d) are %d and %v", s, p, i, got, list)
				}
			}
		}
		for k := range 256 {
			x, y := one{small[k%4], small[k/4%4]}, one{small[k/16%4], small[k/64]}
			holdTwo(t, "not right", s, x, y, "")
		}
	}
}

// wrongInOne are systems that are wrong in one place alone.
func wrongInOne(t *testing.T) []impl.Sys {
	right := talk(t)
	wrong := []impl.Sys{
		but(right, func(s *impl.Sys) { s.States[2].At++ }),
		but(right, func(s *impl.Sys) { s.Ways[0] = []impl.Item{{V: 1}} }),
		but(right, func(s *impl.Sys) { s.Ways[0] = []impl.Item{{Mark: true, V: 1}} }),
		but(right, func(s *impl.Sys) { s.Hist[2] = s.Hist[2][:len(s.Hist[2])-1] }),
		but(right, func(s *impl.Sys) { s.Progs[2][0].N = 4 }),
	}
	for _, s := range wrong {
		if !wantSysOk(right) || wantSysOk(s) {
			t.Fatalf("%+v", s)
		}
	}
	return wrong
}

// Nothing is told of what is right in them either.
func TestNoClocksWhereOneThingIsWrong(t *testing.T) {
	for _, s := range wrongInOne(t) {
		for _, x := range all(s) {
			if got, list := impl.Sender(s, x.p, x.i), impl.Clock(s, x.p, x.i); got != -1 || len(list) != 0 {
				t.Errorf("Sender and Clock of %v are %d and %v in %+v", x, got, list, s)
			}
			for _, y := range all(s) {
				holdTwo(t, "one thing is wrong", s, x, y, "")
			}
		}
	}
}

func TestEventsThatThereAreNot(t *testing.T) {
	for n := 1; n <= 4; n++ {
		s := wantNew(slices.Repeat([][]impl.Ins{program(t, "send 0 0", "set 0 1", "print 0", "jump 0")}, n)...)
		// The last one had no event, each other one two more than the one behind it.
		for p := range n {
			for range 2 * (n - 1 - p) {
				play(&s, p, 0)
			}
		}
		tell, there := tellingOf(s), all(s)
		if !tell.right || len(there) != n*(n-1) {
			t.Fatalf("%+v", s)
		}
		for _, p := range append(wild(), -n, n-1, n, n+1) {
			places := append(wild(), -2, 6, 7, 199, 200, 201)
			if p >= 0 && p < n {
				count := len(s.Hist[p])
				places = append(places, -count, count-1, count, count+1)
			}
			for _, i := range places {
				holdOne(t, "there or not", tell, one{p, i})
				if !tell.has(one{p, i}) {
					holdNone(t, s, one{p, i})
				}
			}
		}
	}
}

// holdNone holds that of x, which is no event, nothing is told, neither alone nor with others.
func holdNone(t *testing.T, s impl.Sys, x one) {
	t.Helper()
	if got, list := impl.Sender(s, x.p, x.i), impl.Clock(s, x.p, x.i); got != -1 || len(list) != 0 {
		t.Errorf("Sender and Clock of %v are %d and %v in %+v", x, got, list, s)
	}
	others := []one{x, {-1, -1}, {-1, 0}, {0, -1}, {len(s.Hist), 0}, {x.p, x.i - 1}, {x.p - 1, x.i}}
	for _, y := range append(others, all(s)...) {
		holdTwo(t, "none", s, x, y, "")
	}
}

func TestNothingHappenedYet(t *testing.T) {
	for n := 1; n <= 4; n++ {
		s := wantNew(slices.Repeat([][]impl.Ins{program(t, "take 0 any", "end")}, n)...)
		for p := -1; p <= n; p++ {
			for i := -1; i <= 1; i++ {
				if got, list := impl.Sender(s, p, i), impl.Clock(s, p, i); got != -1 || len(list) != 0 {
					t.Errorf("Sender and Clock of %d, %d are %d and %v", p, i, got, list)
				}
				holdTwo(t, "nothing happened", s, one{p, i}, one{0, 0}, "")
			}
		}
	}
}

// holdSenders holds Sender of all events of p.
func holdSenders(t *testing.T, what string, s impl.Sys, p int, want ...int) {
	t.Helper()
	tell, got := tellingOf(s), []int{}
	for i := range s.Hist[p] {
		got = append(got, impl.Sender(s, p, i))
		holdOne(t, what, tell, one{p, i})
	}
	if !slices.Equal(got, want) {
		t.Errorf("%s: the senders of %d are %v, not %v, in %+v", what, p, got, want, s)
	}
}

func TestWhatTakesNothingHasNoSender(t *testing.T) {
	lines := []string{"set 0 5", "add 1 0 0", "sub 1 0 0", "mul 1 0 0", "less 1 0 0", "print 0", "send 0 0", "send 1 0", "jump 9", "zero 2 10", "end"}
	s := played(t, [][]impl.Ins{program(t, lines...), program(t, "take 0 0", "end")}, make([]int, 11)...)
	holdSenders(t, "no take", s, 0, many(11, -1)...)
	// Events that go wrong are none either.
	wrong := played(t, [][]impl.Ins{program(t, "set 0 40000", "mul 0 0 0", "end"), program(t, "print 0"), program(t, "send 0 0")}, 0, 0, 1, 2)
	for p, count := range []int{2, 1, 1} {
		holdSenders(t, "gone wrong", wrong, p, many(count, -1)...)
	}
}

// talk is three of which the first sends to the second three times, and to the third and to itself between; all numbers are alike, so that only their order tells them apart.
func talk(t *testing.T) impl.Sys {
	progs := [][]impl.Ins{
		program(t, "set 1 3", "send 1 0", "send 2 0", "send 2 0", "send 1 0", "print 0", "send 0 0", "send 1 0", "end"),
		program(t, "take 0 0", "set 1 3", "send 2 0", "take 0 0", "take 0 any", "end"),
		program(t, "send 1 0", "take 0 any", "take 0 any", "take 0 1", "end"),
	}
	s := wantNew(progs...)
	for _, p := range []int{0, 0, 0, 2, 1, 1, 1, 0, 2, 0, 2, 2, 0, 0, 1, 0, 1} {
		if !play(&s, p, 0) {
			t.Fatalf("it can't come: %+v", s)
		}
	}
	return s
}

func TestSendersOfTakesFromOnePeer(t *testing.T) {
	s := talk(t)
	holdSenders(t, "the first, a middle and the last", s, 1, 1, -1, -1, 4, 7)
	holdSenders(t, "from one, and then from another", s, 2, -1, 2, 3, 2)
	holdSenders(t, "none", s, 0, many(8, -1)...)
	// Some are on the way still, and marks among them: these make no difference.
	marked := but(played(t, s.Progs, 0, 0, 0, 0, 0, 1), func(s *impl.Sys) {
		s.Ways[1] = []impl.Item{{Mark: true}, {V: 0}, {Mark: true}}
		s.Ways[3] = []impl.Item{{Mark: true}}
	})
	holdSenders(t, "one alone", marked, 1, 1)
	holdAll(t, "marks", marked)
	holdAll(t, "talk", s)
}

// As many as there can be: each of 100 takes has its own send, be there little or much on the way.
func TestSendersOfManyTakes(t *testing.T) {
	for ahead := 1; ahead <= 12; ahead++ {
		s := wantNew(program(t, "send 1 0", "jump 0"), program(t, "take 0 0", "jump 0"))
		for range 2 * ahead {
			play(&s, 0, 0)
		}
		for range 200 {
			play(&s, 1, 0)
			play(&s, 0, 0)
		}
		if len(s.Hist[0]) != 200 {
			t.Fatal(len(s.Hist[0]))
		}
		want := []int{}
		for i := range s.Hist[1] {
			if i%2 == 0 {
				want = append(want, i)
			} else {
				want = append(want, -1)
			}
		}
		holdSenders(t, "many", s, 1, want...)
		if got := impl.Clock(s, 1, 198); !slices.Equal(got, []int{199, 199}) {
			t.Errorf("the clock of the last take is %v", got)
		}
	}
}

func TestSendersOfTakesFromSeveralInTurn(t *testing.T) {
	progs := [][]impl.Ins{program(t, "send 3 0", "send 3 0", "end"), program(t, "set 1 5", "send 3 0", "set 1 6", "send 3 0", "end"),
		program(t, "send 1 0", "send 3 0", "send 0 0", "send 3 0", "end"), program(t, "take 0 any", "jump 0")}
	places := [][]int{{0, 1}, {1, 3}, {1, 3}}
	start := played(t, progs, 0, 0, 1, 1, 1, 1, 2, 2, 2, 2)
	orders := 0
	for k := range 729 {
		order, taken := []int{k % 3, k / 3 % 3, k / 9 % 3, k / 27 % 3, k / 81 % 3, k / 243}, [3]int{}
		for _, peer := range order {
			taken[peer]++
		}
		if taken != [3]int{2, 2, 2} {
			continue
		}
		orders++
		s, want := cloneSys(start), []int{}
		for i, peer := range order {
			if !play(&s, 3, peer) || i < 5 && !play(&s, 3, 0) {
				t.Fatalf("it can't come: %+v", s)
			}
			want = append(want, places[peer][2-taken[peer]], -1)
			taken[peer]--
		}
		holdSenders(t, "in turn", s, 3, want[:11]...)
	}
	if orders != 90 {
		t.Error(orders)
	}
}

func TestSendersOfTakesOfOneself(t *testing.T) {
	for n := 1; n <= 4; n++ {
		for p := range n {
			for _, from := range []int{p, impl.Any} {
				progs := slices.Repeat([][]impl.Ins{program(t, "end")}, n)
				send, take := impl.Ins{Op: impl.OpSend, N: p}, impl.Ins{Op: impl.OpTake, N: from}
				progs[p] = []impl.Ins{send, {Op: impl.OpPrint}, send, take, send, take, take, {Op: impl.OpEnd}}
				s := wantNew(progs...)
				for range 8 {
					if !play(&s, p, p) {
						t.Fatalf("it can't come: %+v", s)
					}
				}
				holdSenders(t, "of oneself", s, p, -1, -1, -1, 0, -1, 2, 4, -1)
				for i := range 8 {
					want := make([]int, n)
					want[p] = i + 1
					if got := impl.Clock(s, p, i); !slices.Equal(got, want) {
						t.Errorf("the clock of %d is %v", i, got)
					}
				}
				holdTwo(t, "a take of oneself and its send", s, one{p, 3}, one{p, 0}, ">")
				holdTwo(t, "a take of oneself and a send that it is not of", s, one{p, 3}, one{p, 2}, ">")
				holdTwo(t, "a take of oneself and a send behind it", s, one{p, 3}, one{p, 4}, "<")
				holdAll(t, "of oneself", s)
			}
		}
	}
}

// Of takes of oneself among takes of another, each finds its own.
func TestSendersOfTakesOfOneselfAndOthers(t *testing.T) {
	progs := [][]impl.Ins{program(t, "send 1 0", "send 0 0", "send 1 0", "end"), program(t, "send 1 0", "send 0 0", "send 1 0", "take 0 any", "take 0 any", "take 0 any", "take 0 any", "end")}
	start := played(t, progs, 0, 0, 0, 1, 1, 1)
	for _, c := range []struct{ order, want []int }{
		{[]int{0, 0, 1, 1}, []int{0, 2, 0, 2}}, {[]int{0, 1, 0, 1}, []int{0, 0, 2, 2}}, {[]int{1, 0, 0, 1}, []int{0, 0, 2, 2}},
		{[]int{1, 1, 0, 0}, []int{0, 2, 0, 2}}, {[]int{1, 0, 1, 0}, []int{0, 0, 2, 2}}, {[]int{0, 1, 1, 0}, []int{0, 0, 2, 2}},
	} {
		s := cloneSys(start)
		for _, peer := range c.order {
			play(&s, 1, peer)
		}
		holdSenders(t, "both", s, 1, append([]int{-1, -1, -1}, c.want...)...)
		holdAll(t, "both", s)
	}
}

// holdClocks holds Clock of all events of p.
func holdClocks(t *testing.T, what string, s impl.Sys, p int, want ...[]int) {
	t.Helper()
	got := [][]int{}
	for i := range s.Hist[p] {
		got = append(got, impl.Clock(s, p, i))
	}
	if !sameLists(got, want) {
		t.Errorf("%s: the clocks of %d are %v, not %v, in %+v", what, p, got, want, s)
	}
}

func TestClocksOfThoseWhoNeverMet(t *testing.T) {
	for n := 1; n <= 4; n++ {
		s := wantNew(slices.Repeat([][]impl.Ins{program(t, "set 0 1", "send 0 0", "print 0", "end")}, n)...)
		for range 4 {
			for p := range n {
				play(&s, p, 0)
			}
		}
		for p := range n {
			want := [][]int{}
			for i := range 4 {
				want = append(want, make([]int, n))
				want[i][p] = i + 1
			}
			holdClocks(t, "alone", s, p, want...)
		}
		for _, x := range all(s) {
			for _, y := range all(s) {
				sign := "|"
				if x.p == y.p {
					sign = []string{"<", "=", ">"}[min(max(x.i-y.i, -1), 1)+1]
				}
				holdTwo(t, "alone", s, x, y, sign)
			}
		}
	}
}

// What is sent and not taken yet brings nobody together.
func TestASendThatIsNotTakenYet(t *testing.T) {
	progs := [][]impl.Ins{program(t, "send 1 0", "end"), program(t, "set 0 1", "take 0 0", "end")}
	s := played(t, progs, 0, 1)
	holdTwo(t, "on its way", s, one{0, 0}, one{1, 0}, "|")
	holdClocks(t, "on its way", s, 1, []int{0, 1})
	s = played(t, progs, 0, 1, 1)
	holdClocks(t, "taken", s, 1, []int{0, 1}, []int{1, 2})
	holdTwo(t, "ahead of the take", s, one{0, 0}, one{1, 0}, "|")
	holdTwo(t, "taken", s, one{0, 0}, one{1, 1}, "<")
}

func TestClocksBehindTakes(t *testing.T) {
	s := played(t, pair(t), 0, 0, 0, 0, 1, 1, 1, 0, 0, 0, 0, 0)
	holdClocks(t, "the first", s, 0, []int{1, 0}, []int{2, 0}, []int{3, 0}, []int{4, 0}, []int{5, 0}, []int{6, 0}, []int{7, 2}, []int{8, 2}, []int{9, 2})
	// The second takes 5 and 6, sent by events 1 and 3 of the first.
	holdClocks(t, "the second", s, 1, []int{2, 1}, []int{2, 2}, []int{4, 3})
	holdTwo(t, "a send and its take", s, one{0, 1}, one{1, 0}, "<")
	holdTwo(t, "ahead of a send and its take", s, one{0, 0}, one{1, 0}, "<")
	holdTwo(t, "a send and behind its take", s, one{0, 1}, one{1, 2}, "<")
	holdTwo(t, "behind a send and its take", s, one{0, 2}, one{1, 0}, "|")
	holdTwo(t, "the other send and the take", s, one{0, 3}, one{1, 0}, "|")
	holdTwo(t, "the other send and its own take", s, one{0, 3}, one{1, 2}, "<")
	holdTwo(t, "sent back", s, one{1, 1}, one{0, 6}, "<")
	holdTwo(t, "ahead of what was sent back", s, one{1, 0}, one{0, 6}, "<")
	holdTwo(t, "behind what was sent back", s, one{1, 2}, one{0, 6}, "|")
	holdTwo(t, "behind what was sent back, and the end", s, one{1, 2}, one{0, 8}, "|")
	holdTwo(t, "itself", s, one{0, 6}, one{0, 6}, "=")
	holdTwo(t, "the one ahead", s, one{0, 6}, one{0, 5}, ">")
	holdTwo(t, "the one behind", s, one{0, 6}, one{0, 7}, "<")
	holdTwo(t, "first and last", s, one{0, 0}, one{0, 8}, "<")
	holdAll(t, "pair", s)
}

// A take of what was sent long ago takes nothing away of what is known by then.
func TestALateTakeOfWhatWasSentEarly(t *testing.T) {
	progs := [][]impl.Ins{program(t, "send 2 0", "set 0 1", "send 1 0", "end"), program(t, "take 0 0", "send 2 0", "end"), program(t, "take 0 1", "take 0 0", "end")}
	s := played(t, progs, 0, 0, 0, 1, 1, 2, 2)
	holdClocks(t, "the early one", s, 2, []int{3, 2, 1}, []int{3, 2, 2})
	holdSenders(t, "the early one", s, 2, 1, 0)
	holdAll(t, "the early one", s)
}

func TestThroughAThird(t *testing.T) {
	progs := [][]impl.Ins{
		program(t, "set 0 4", "send 1 0", "set 0 5", "end"), program(t, "set 1 6", "take 0 0", "send 2 0", "set 1 7", "end"),
		program(t, "set 1 8", "take 0 any", "send 3 0", "end"), program(t, "set 1 9", "take 0 2", "send 0 0", "end"),
	}
	s := played(t, progs, 0, 0, 0, 0, 1, 1, 1, 1, 1, 2, 2, 2, 2, 3, 3, 3, 3)
	holdClocks(t, "the first", s, 0, []int{1, 0, 0, 0}, []int{2, 0, 0, 0}, []int{3, 0, 0, 0}, []int{4, 0, 0, 0})
	holdClocks(t, "the second", s, 1, []int{0, 1, 0, 0}, []int{2, 2, 0, 0}, []int{2, 3, 0, 0}, []int{2, 4, 0, 0}, []int{2, 5, 0, 0})
	holdClocks(t, "the third", s, 2, []int{0, 0, 1, 0}, []int{2, 3, 2, 0}, []int{2, 3, 3, 0}, []int{2, 3, 4, 0})
	holdClocks(t, "the fourth", s, 3, []int{0, 0, 0, 1}, []int{2, 3, 3, 2}, []int{2, 3, 3, 3}, []int{2, 3, 3, 4})
	holdTwo(t, "through two others", s, one{0, 0}, one{3, 1}, "<")
	holdTwo(t, "behind the send that began it", s, one{0, 2}, one{3, 3}, "|")
	holdTwo(t, "ahead of the take that ended it", s, one{0, 0}, one{3, 0}, "|")
	holdTwo(t, "through one other", s, one{2, 1}, one{0, 1}, ">")
	holdAll(t, "a chain", s)
	// Round in a circle, and back to who began it.
	back := but(s, func(s *impl.Sys) {
		s.Progs[0] = program(t, "set 0 4", "send 1 0", "set 0 5", "take 0 3", "end")
		s.Hist[0], s.States[0] = s.Hist[0][:3], fromTo(3, 5, 0, 0, 0)
	})
	if !play(&back, 0, 0) {
		t.Fatalf("%+v", back)
	}
	if got := impl.Clock(back, 0, 3); !slices.Equal(got, []int{4, 3, 3, 3}) || impl.Sender(back, 0, 3) != 2 {
		t.Errorf("back again it is %v", got)
	}
	holdAll(t, "a circle", back)
}

// What came by two ways is the most of both.
func TestTheMostOfTwoWays(t *testing.T) {
	progs := [][]impl.Ins{
		program(t, "send 1 0", "send 2 0", "end"), program(t, "set 1 5", "take 0 0", "set 1 5", "send 3 0", "end"),
		program(t, "take 0 0", "send 3 0", "end"), program(t, "take 0 any", "take 0 any", "end"),
	}
	start := played(t, progs, 0, 0, 0, 1, 1, 1, 1, 1, 2, 2, 2)
	for _, c := range []struct {
		order []int
		want  [][]int
	}{
		{[]int{1, 2}, [][]int{{1, 4, 0, 1}, {2, 4, 2, 2}}}, {[]int{2, 1}, [][]int{{2, 0, 2, 1}, {2, 4, 2, 2}}},
	} {
		s := cloneSys(start)
		for _, peer := range c.order {
			play(&s, 3, peer)
		}
		holdClocks(t, "two ways", s, 3, c.want...)
		holdAll(t, "two ways", s)
	}
}

// All processes had MaxEvents, so that as much as can be hangs on one event.
func TestClocksOfAsManyEventsAsThereCanBe(t *testing.T) {
	progs := [][]impl.Ins{}
	for p := range 4 {
		progs = append(progs, []impl.Ins{{Op: impl.OpSend, N: (p + 1) % 4}, {Op: impl.OpTake, N: impl.Any}, {Op: impl.OpJump}})
	}
	s := wantNew(progs...)
	for range 200 {
		for p := range 4 {
			play(&s, p, (p+3)%4)
		}
	}
	if events(s) != 800 {
		t.Fatal(events(s))
	}
	// It takes what 3 sent last; what 3, and then 2, took ahead of that is each time three events earlier.
	if got := impl.Clock(s, 0, 199); !slices.Equal(got, []int{200, 193, 196, 199}) {
		t.Errorf("the last clock is %v", got)
	}
	tell, list := tellingOf(s), all(s)
	for _, x := range list {
		holdOne(t, "as many as can be", tell, x)
	}
	r := rand.New(rand.NewSource(25))
	for range 600 {
		x, y := list[r.Intn(len(list))], list[r.Intn(len(list))]
		if r.Intn(2) == 0 {
			y = one{r.Intn(4), min(max(x.i+r.Intn(9)-4, 0), 199)}
		}
		holdTwo(t, "as many as can be", s, x, y, tell.sign(x, y))
	}
	for p := range 4 {
		holdTwo(t, "one more", s, one{p, 200}, one{0, 0}, "")
		holdTwo(t, "the last", s, one{p, 199}, one{0, 0}, ">")
	}
}

// someChat is a system of processes that each send some numbers, all alike, and take from whichever, so many steps from its beginning if nobody is in the way.
func someChat(r *rand.Rand, steps int) impl.Sys {
	n := r.Intn(4) + 1
	progs := [][]impl.Ins{}
	for range n {
		list := []impl.Ins{{Op: impl.OpSend, N: r.Intn(n)}}
		for range r.Intn(3) + 2 {
			list = append(list, [][]impl.Ins{{{Op: impl.OpSend, N: r.Intn(n)}}, {{Op: impl.OpTake, N: impl.Any}}, {{Op: impl.OpTake, N: impl.Any}, {Op: impl.OpPrint}}}[r.Intn(3)]...)
		}
		progs = append(progs, append(list, impl.Ins{Op: impl.OpJump}))
	}
	s := wantNew(progs...)
	// Many tries come to nothing.
	for range 6 * steps {
		if events(s) < steps {
			play(&s, r.Intn(n), r.Intn(n))
		}
	}
	return s
}

func TestAllPairsByChance(t *testing.T) {
	r := rand.New(rand.NewSource(26))
	counts := map[string]int{}
	for k := range 240 {
		s := someChat(r, r.Intn(45))
		if k%4 == 0 {
			s = someSys(r, r.Intn(60))
		}
		holdAll(t, "by chance", s)
		tell := tellingOf(s)
		for _, x := range all(s) {
			for _, y := range all(s) {
				if x.p != y.p {
					counts[tell.sign(x, y)]++
				}
			}
			if from := impl.Sender(s, x.p, x.i); from >= 0 {
				peer := s.Hist[x.p][x.i].Peer
				if s.Hist[peer][from] != (impl.Event{Kind: impl.EvSend, Peer: x.p, V: s.Hist[x.p][x.i].V}) || !hangs(s, x, one{peer, from}) {
					t.Fatalf("%v does not hang on its send %d in %+v", x, from, s)
				}
				counts["take"]++
			}
		}
	}
	for _, sign := range []string{"<", ">", "|", "take"} {
		if counts[sign] < 500 {
			t.Error("few:", counts)
		}
	}
}

func TestClocksByChance(t *testing.T) {
	r := rand.New(rand.NewSource(27))
	counts := [2]int{}
	pick := func(n int) int {
		if r.Intn(8) == 0 {
			return wild()[r.Intn(len(wild()))]
		}
		return r.Intn(n + 1)
	}
	for range 2500 {
		s := someChat(r, r.Intn(200))
		if r.Intn(3) == 0 {
			s = someSys(r, r.Intn(200))
		}
		if r.Intn(5) == 0 {
			someTurn(r, &s)
		}
		tell := tellingOf(s)
		for range 6 {
			x, y := one{p: pick(len(s.Progs) - 1)}, one{p: pick(len(s.Progs) - 1)}
			for _, z := range []*one{&x, &y} {
				z.i = pick(3)
				if z.p >= 0 && z.p < len(s.Hist) {
					z.i = pick(len(s.Hist[z.p]))
				}
			}
			holdOne(t, "by chance", tell, x)
			sign := tell.sign(x, y)
			holdTwo(t, "by chance", s, x, y, sign)
			if sign == "" {
				counts[0]++
			} else {
				counts[1]++
			}
		}
	}
	if counts[0] < 2000 || counts[1] < 3000 {
		t.Error("few:", counts)
	}
}

// Whatever the order in which it came to pass, what hangs on another came later; and a step more turns nothing of what was.
func TestWhatHangsCameLater(t *testing.T) {
	r := rand.New(rand.NewSource(28))
	pairs, takes := 0, 0
	for range 60 {
		s := someChat(r, 0)
		n := len(s.Progs)
		order, clocks := []one{}, [][]int{}
		for range 120 {
			p := r.Intn(n)
			after, code := impl.Step(s, p, r.Intn(n))
			if code != impl.RsDone {
				continue
			}
			s = after
			x := one{p, len(s.Hist[p]) - 1}
			order, clocks = append(order, x), append(clocks, impl.Clock(s, x.p, x.i))
			if impl.Sender(s, x.p, x.i) >= 0 {
				takes++
			}
		}
		for k, x := range order {
			if got := impl.Clock(s, x.p, x.i); !slices.Equal(got, clocks[k]) {
				t.Fatalf("the clock of %v is %v, and was %v, in %+v", x, got, clocks[k], s)
			}
			for _, y := range order[k+1:] {
				if hangs(s, x, y) {
					t.Fatalf("%v came ahead of %v, and hangs on it, in %+v", x, y, s)
				}
				pairs++
			}
		}
	}
	if pairs < 20000 || takes < 400 {
		t.Error("few:", pairs, takes)
	}
}

func TestClocksWriteIntoNothingAndShareNothing(t *testing.T) {
	for _, from := range append(stepSystems(t), talk(t)) {
		tell := tellingOf(from)
		for i, given := range layings(from) {
			s, same := given()
			for p := -1; p <= min(len(s.Progs), 4); p++ {
				last := 0
				if p >= 0 && p < len(s.Hist) {
					last = len(s.Hist[p])
				}
				for _, at := range []int{-1, 0, last / 2, last - 1, last} {
					want := tell.clock(one{p, at})
					got, again := impl.Clock(s, p, at), impl.Clock(s, p, at)
					overwrite(got)
					if !slices.Equal(again, want) || !same() {
						t.Fatalf("%d: Clock(%+v, %d, %d) is shared, is not %v, or wrote into it", i, from, p, at, want)
					}
					first := impl.Sender(s, p, at)
					hung, beside := impl.Hangs(s, p, at, 0, 0), impl.Side(s, p, at, 0, 0)
					if impl.Sender(s, p, at) != first || impl.Hangs(s, p, at, 0, 0) != hung || impl.Side(s, p, at, 0, 0) != beside || !same() {
						t.Fatalf("%d: of %d, %d in %+v twice is not once, or wrote into it", i, p, at, from)
					}
				}
			}
		}
	}
}

// A clock that was told stays what it was, whatever becomes of the system.
func TestClocksAreKept(t *testing.T) {
	s := talk(t)
	tell, told, want := tellingOf(s), [][]int{}, [][]int{}
	for _, x := range all(s) {
		told = append(told, impl.Clock(s, x.p, x.i))
		want = append(want, tell.clock(x))
	}
	for p := range s.Hist {
		overwrite(s.States[p].Regs)
		overwrite(s.States[p].Out)
		wipe(s.Hist[p:p+1], impl.Event{Kind: -99})
	}
	if !sameLists(told, want) {
		t.Errorf("%v, not %v", told, want)
	}
	for k := range told {
		overwrite(told[k])
		if !sameLists(told[k+1:], want[k+1:]) {
			t.Fatal("two of them share")
		}
	}
}
