package tests

import (
	"math"
	"math/rand"
	"slices"
	"testing"

	"loop.example/g00196/impl"
)

func isZeroState(s impl.State) bool {
	return s.At == 0 && s.Code == 0 && len(s.Regs) == 0 && len(s.Out) == 0
}

// wantNext is Next of a right state in a right program, told once more.
func wantNext(list []impl.Ins, s impl.State) impl.Event {
	if s.Code != 0 {
		return impl.Event{}
	}
	x := list[s.At]
	switch x.Op {
	case 6:
		return impl.Event{Kind: 2, Peer: x.N, V: s.Regs[x.A]}
	case 7:
		return impl.Event{Kind: 3, Peer: x.N}
	case 8:
		return impl.Event{Kind: 4, V: s.Regs[x.A]}
	}
	return impl.Event{Kind: 1}
}

// wantReplay is Replay, told once more.
func wantReplay(list []impl.Ins, events []impl.Event) (impl.State, bool) {
	right := len(list) >= 1 && len(list) <= 30 && len(events) <= 200
	for _, x := range list {
		right = right && wantOk(x, len(list), 4)
	}
	if !right {
		return impl.State{}, false
	}
	s := fromTo(0, 0, 0, 0, 0)
	for _, e := range events {
		if !mayCome(wantNext(list, s), e) {
			return impl.State{}, false
		}
		s = wantDo(list, s, e)
	}
	return s, true
}

// holdReplay holds Replay against wantReplay, and tells whether there is one.
func holdReplay(t *testing.T, list []impl.Ins, events []impl.Event) bool {
	t.Helper()
	want, wantTrue := wantReplay(list, events)
	got, ok := impl.Replay(list, events)
	if ok != wantTrue || !sameState(got, want) || !ok && !isZeroState(got) {
		t.Fatalf("Replay(%+v, %+v) is %+v, %v, not %+v, %v", list, events, got, ok, want, wantTrue)
	}
	return ok
}

// runBy are at most n events of a right program, one behind the other; what is taken, and from whom, goes by chance.
func runBy(r *rand.Rand, list []impl.Ins, n int) []impl.Event {
	events, s := []impl.Event{}, fromTo(0, 0, 0, 0, 0)
	for len(events) < n {
		e := wantNext(list, s)
		if e.Kind == 0 {
			break
		}
		if e.Kind == 3 {
			e.V = []int{0, 1, -1, 2, 5, 31622, impl.MaxNum, -impl.MaxNum}[r.Intn(8)]
			if e.Peer == 9 {
				e.Peer = r.Intn(4)
			}
		}
		events = append(events, e)
		s = wantDo(list, s, e)
	}
	return events
}

// longPrograms go on, with every kind of event, as long as events may come; but for the last three, which end or go wrong.
func longPrograms(t *testing.T) [][]impl.Ins {
	return [][]impl.Ins{
		program(t, "jump 0"),
		program(t, "set 0 1", "set 1 5", "sub 1 1 0", "send 3 1", "zero 1 0", "jump 2"),
		program(t, "take 0 any", "take 1 2", "less 2 0 1", "send 0 2", "jump 0"),
		program(t, "set 0 3", "send 1 0", "set 1 0", "zero 1 1"),
		program(t, "set 0 7", "print 0", "take 3 0", "mul 2 0 0", "less 3 2 0", "zero 3 0", "end"),
		ends(30, 29),
		program(t, "set 0 3", "set 1 1", "zero 0 6", "print 0", "sub 0 0 1", "jump 2", "end"),
		program(t, "set 0 9", "take 1 any", "send 2 1", "mul 0 0 0", "jump 3"),
	}
}

func TestMostEventsIsTwoHundred(t *testing.T) {
	if impl.MaxEvents != 200 {
		t.Error(impl.MaxEvents)
	}
}

// badPrograms are lists that are not ProgOk for MaxProcs.
func badPrograms() [][]impl.Ins {
	return [][]impl.Ins{
		nil, {}, ends(31, 0), ends(100, 0), ends(3, 3), ends(3, -1),
		{{}}, {{Op: 12}}, {{Op: -1}}, {{Op: math.MaxInt}}, {{Op: impl.OpEnd, N: 1}},
		{{Op: impl.OpJump}, {Op: impl.OpSend, N: 4}}, {{Op: impl.OpJump}, {Op: impl.OpSend, N: impl.Any}}, {{Op: impl.OpJump}, {Op: impl.OpTake, N: 4}},
		{{Op: impl.OpJump}, {Op: impl.OpSet, N: impl.MaxNum + 1}}, {{Op: impl.OpJump}, {Op: impl.OpPrint, A: 4}}, {{Op: impl.OpSet, R: -1}, {Op: impl.OpJump}},
	}
}

func TestNothingHappened(t *testing.T) {
	lists := append(longPrograms(t), ends(1, 0), ends(30, 0), program(t, "end"), program(t, "send 3 3", "take 3 3", "take 0 any"))
	for _, list := range lists {
		for _, none := range [][]impl.Event{nil, {}} {
			got, ok := impl.Replay(list, none)
			if !ok || !sameState(got, fromTo(0, 0, 0, 0, 0)) || !sameState(got, impl.StateNew()) {
				t.Errorf("%+v: %+v, %v", list, got, ok)
			}
		}
	}
}

func TestNothingIsOnceMoreOfWhatIsNoProgram(t *testing.T) {
	for _, list := range badPrograms() {
		for _, events := range [][]impl.Event{nil, {}, {local()}, {{}}, {local(), local()}, slices.Repeat([]impl.Event{local()}, 201)} {
			if got, ok := impl.Replay(list, events); ok || !isZeroState(got) {
				t.Errorf("Replay(%+v, %+v) is %+v, %v", list, events, got, ok)
			}
		}
	}
}

func TestARunOnceMore(t *testing.T) {
	list := program(t, "set 1 1", "take 0 any", "add 0 0 1", "print 0", "send 2 0", "take 3 2", "end")
	events := []impl.Event{local(), {Kind: impl.EvTake, Peer: 3, V: -6}, local(), {Kind: impl.EvPrint, V: -5},
		{Kind: impl.EvSend, Peer: 2, V: -5}, {Kind: impl.EvTake, Peer: 2, V: 40}, local()}
	behind := []impl.State{
		fromTo(0, 0, 0, 0, 0), fromTo(1, 0, 1, 0, 0), fromTo(2, -6, 1, 0, 0), fromTo(3, -5, 1, 0, 0),
		{At: 4, Regs: []int{-5, 1, 0, 0}, Out: []int{-5}}, {At: 5, Regs: []int{-5, 1, 0, 0}, Out: []int{-5}},
		{At: 6, Regs: []int{-5, 1, 0, 40}, Out: []int{-5}}, {At: 6, Regs: []int{-5, 1, 0, 40}, Out: []int{-5}, Code: impl.StEnd},
	}
	for n, want := range behind {
		if got, ok := impl.Replay(list, events[:n]); !ok || !sameState(got, want) {
			t.Errorf("behind %d: %+v, %v, not %+v", n, got, ok, want)
		}
	}
	// Behind the end nothing comes, not even what came there.
	for _, e := range append(someEvents(), events...) {
		if got, ok := impl.Replay(list, append(slices.Clone(events), e)); ok || !isZeroState(got) {
			t.Fatalf("%+v behind the end: %+v, %v", e, got, ok)
		}
	}
}

func TestFaultsOnceMore(t *testing.T) {
	list := program(t, "set 0 40000", "mul 0 0 0", "end")
	events := []impl.Event{local(), local()}
	if got, ok := impl.Replay(list, events); !ok || !sameState(got, impl.State{At: 1, Regs: []int{40000, 0, 0, 0}, Code: impl.StFault}) {
		t.Errorf("a number too great: %+v, %v", got, ok)
	}
	if got, ok := impl.Replay(list, append(events, local())); ok || !isZeroState(got) {
		t.Errorf("behind a fault: %+v, %v", got, ok)
	}
	prints := slices.Repeat([]impl.Event{{Kind: impl.EvPrint}, local()}, 100)
	printer := program(t, "print 0", "jump 0")
	if got, ok := impl.Replay(printer, prints[:121]); !ok || !sameState(got, impl.State{Regs: many(4, 0), Out: many(60, 0), Code: impl.StFault}) {
		t.Errorf("a print too many: %+v, %v", got, ok)
	}
	if got, ok := impl.Replay(printer, prints[:122]); ok || !isZeroState(got) {
		t.Errorf("behind a print too many: %+v, %v", got, ok)
	}
}

func TestEventsMetAndPassed(t *testing.T) {
	jumps := program(t, "jump 0")
	for n, want := range map[int]bool{0: true, 1: true, 199: true, 200: true, 201: false, 202: false, 256: false, 400: false, 100000: false} {
		events := slices.Repeat([]impl.Event{local()}, n)
		got, ok := impl.Replay(jumps, events)
		if ok != want || want && !sameState(got, impl.StateNew()) || !want && !isZeroState(got) {
			t.Errorf("%d events: %+v, %v", n, got, ok)
		}
	}
	r := rand.New(rand.NewSource(5))
	for i, list := range longPrograms(t)[:5] {
		events := runBy(r, list, 201)
		if len(events) != 201 {
			t.Fatal("it does not go on:", i)
		}
		if !holdReplay(t, list, events[:200]) || holdReplay(t, list, events) {
			t.Error(i)
		}
		for _, at := range []int{0, 1, 100, 198, 199} {
			changed := slices.Clone(events[:200])
			changed[at] = impl.Event{}
			if holdReplay(t, list, changed) {
				t.Error(i, at)
			}
		}
		// The limit is of the events, not of those that can come.
		if holdReplay(t, list, append(events[:200:200], impl.Event{})) || holdReplay(t, list, append([]impl.Event{{}}, events[:200]...)) {
			t.Error(i)
		}
	}
}

func TestOneEventThatIsNone(t *testing.T) {
	r := rand.New(rand.NewSource(6))
	refused, done := 0, 0
	for _, list := range longPrograms(t) {
		for _, n := range []int{1, 2, 3, 40} {
			events := runBy(r, list, n)
			for _, at := range []int{0, len(events) / 2, len(events) - 1} {
				for _, e := range someEvents() {
					changed := slices.Clone(events)
					changed[at] = e
					if holdReplay(t, list, changed) {
						done++
					} else {
						refused++
					}
				}
				for _, other := range [][]impl.Event{
					slices.Delete(slices.Clone(events), at, at+1),
					slices.Insert(slices.Clone(events), at, impl.Event{}),
					slices.Insert(slices.Clone(events), at, events[at]),
				} {
					holdReplay(t, list, other)
				}
			}
		}
	}
	if refused < 10000 || done < 500 {
		t.Error("few:", refused, done)
	}
}

func TestOneOffIsRefusedAtEachPlace(t *testing.T) {
	list := program(t, "set 0 7", "take 1 2", "send 3 1", "print 1", "take 2 any", "less 3 0 1", "end")
	events := []impl.Event{local(), {Kind: 3, Peer: 2, V: 8}, {Kind: 2, Peer: 3, V: 8}, {Kind: 4, V: 8}, {Kind: 3, Peer: 0, V: 6}, local(), local()}
	if _, ok := impl.Replay(list, events); !ok {
		t.Fatal("the run itself")
	}
	for at, e := range events {
		for _, off := range []impl.Event{{}, {Kind: e.Kind + 1, Peer: e.Peer, V: e.V}, {Kind: e.Kind, Peer: e.Peer + 4, V: e.V}, {Kind: e.Kind, Peer: -1, V: e.V}, {Kind: e.Kind, Peer: e.Peer, V: impl.MaxNum + 1}, {Kind: e.Kind, Peer: 9, V: e.V}} {
			for behind := at + 1; behind <= len(events); behind++ {
				changed := slices.Clone(events[:behind])
				changed[at] = off
				if got, ok := impl.Replay(list, changed); ok || !isZeroState(got) {
					t.Errorf("%+v at %d of %d: %+v, %v", off, at, behind, got, ok)
				}
			}
		}
	}
}

// A beginning of what happened is what happened to begin with: there is a Replay of it, and Do of what comes behind it goes on to the whole.
func TestBeginnings(t *testing.T) {
	r := rand.New(rand.NewSource(7))
	lists := longPrograms(t)
	for len(lists) < 300 {
		if list := someProgram(r); impl.ProgOk(list, impl.MaxProcs) {
			lists = append(lists, list)
		}
	}
	long := 0
	for _, list := range lists {
		events := runBy(r, list, 200)
		if len(events) > 50 {
			long++
		}
		s := impl.StateNew()
		for n := 0; ; n++ {
			if got, ok := impl.Replay(list, events[:n]); !ok || !sameState(got, s) || !impl.StateOk(list, got) {
				t.Fatalf("%+v behind %d of %+v: %+v, %v, not %+v", list, n, events, got, ok, s)
			}
			if n == len(events) {
				break
			}
			var ok bool
			if s, ok = impl.Do(list, s, events[n]); !ok {
				t.Fatalf("%+v: no Do of %d of %+v", list, n, events)
			}
		}
	}
	if long < 20 {
		t.Error("few were long:", long)
	}
}

func TestOnceMoreByChance(t *testing.T) {
	r := rand.New(rand.NewSource(8))
	there, none := 0, 0
	pool := someEvents()
	for range 20000 {
		list := someProgram(r)
		events := []impl.Event{}
		if impl.ProgOk(list, impl.MaxProcs) {
			events = runBy(r, list, r.Intn(12))
		}
		for range r.Intn(2) {
			events = slices.Insert(events, r.Intn(len(events)+1), pool[r.Intn(len(pool))])
		}
		if holdReplay(t, list, events) {
			there++
		} else {
			none++
		}
	}
	if there < 3000 || none < 3000 {
		t.Error("few:", there, none)
	}
}

// mixed has events of each kind and peer, right and not, more than there may be in a Replay.
func mixed() []impl.Event {
	events := []impl.Event{}
	for i := range 3 {
		for _, kind := range []int{1, 2, 3, 4, 0, 5, -1, math.MinInt, math.MaxInt} {
			for _, peer := range []int{0, 1, 2, 3, 4, 9, -1, math.MinInt, math.MaxInt} {
				events = append(events, impl.Event{Kind: kind, Peer: peer, V: 1000*i + len(events)})
			}
		}
	}
	return append(events, impl.Event{Kind: 3, Peer: 9, V: math.MinInt}, impl.Event{}, impl.Event{Kind: 3, Peer: 1, V: math.MaxInt})
}

// holdCounts holds Count, Nth and Values of one kind and peer against the events gone through one by one.
func holdCounts(t *testing.T, events []impl.Event, kind, peer int) {
	t.Helper()
	count := 0
	values := []int{}
	for i, e := range events {
		if e.Kind != kind || e.Peer != peer {
			continue
		}
		if got := impl.Nth(events, kind, peer, count); got != i {
			t.Errorf("number %d of %d, %d is at %d, not %d", count, kind, peer, got, i)
		}
		count++
		values = append(values, e.V)
	}
	if got := impl.Count(events, kind, peer); got != count {
		t.Errorf("%d of %d, %d, not %d", got, kind, peer, count)
	}
	if got := impl.Values(events, kind, peer); !slices.Equal(got, values) {
		t.Errorf("values of %d, %d are %v, not %v", kind, peer, got, values)
	}
	for _, n := range append(wild(), count, count+1, -count, -count-1) {
		if got := impl.Nth(events, kind, peer, n); (n < 0 || n >= count) && got != -1 {
			t.Errorf("number %d of %d, %d is at %d", n, kind, peer, got)
		}
	}
}

func TestCountsOfEachKindAndPeer(t *testing.T) {
	one := []impl.Event{{Kind: 3, Peer: 2, V: 7}}
	some := []impl.Event{{Kind: 3, Peer: 2, V: 7}, local(), {Kind: 2, Peer: 2, V: -7}, {Kind: 3, Peer: 1, V: 8}, {Kind: 3, Peer: 2, V: 7}, {Kind: 4, V: 9}, {Kind: 3, Peer: 2, V: -impl.MaxNum}}
	for _, events := range [][]impl.Event{nil, {}, {{}}, one, some, mixed()} {
		for _, kind := range wild() {
			for _, peer := range wild() {
				holdCounts(t, events, kind, peer)
			}
		}
	}
}

func TestCountsSpelledOut(t *testing.T) {
	events := []impl.Event{local(), {Kind: impl.EvTake, Peer: 1, V: 5}, {Kind: impl.EvSend, Peer: 1, V: 6}, {Kind: impl.EvTake, Peer: 0, V: 7}, {Kind: impl.EvTake, Peer: 1, V: -8}, {Kind: impl.EvPrint, V: 9}, local(), {Kind: impl.EvTake, Peer: 1, V: 5}}
	if impl.Count(events, impl.EvTake, 1) != 3 || impl.Count(events, impl.EvTake, 0) != 1 || impl.Count(events, impl.EvSend, 1) != 1 || impl.Count(events, impl.EvLocal, 0) != 2 || impl.Count(events, impl.EvPrint, 0) != 1 {
		t.Error("counts")
	}
	if impl.Count(events, impl.EvTake, impl.Any) != 0 || impl.Count(events, impl.EvTake, 2) != 0 || impl.Count(events, impl.EvLocal, 1) != 0 || impl.Count(events, 0, 0) != 0 || impl.Count(events, 5, 1) != 0 || impl.Count(nil, impl.EvTake, 1) != 0 {
		t.Error("counts of what there is not")
	}
	for n, want := range map[int]int{0: 1, 1: 4, 2: 7, 3: -1, 4: -1, -1: -1, -3: -1, math.MaxInt: -1, math.MinInt: -1} {
		if got := impl.Nth(events, impl.EvTake, 1, n); got != want {
			t.Errorf("take %d from 1 is at %d, not %d", n, got, want)
		}
	}
	if impl.Nth(events, impl.EvTake, 2, 0) != -1 || impl.Nth(events, impl.EvTake, impl.Any, 0) != -1 || impl.Nth(nil, impl.EvTake, 1, 0) != -1 || impl.Nth(nil, 0, 0, -1) != -1 {
		t.Error("places of what there is not")
	}
	if got := impl.Values(events, impl.EvTake, 1); !slices.Equal(got, []int{5, -8, 5}) {
		t.Error(got)
	}
	if len(impl.Values(events, impl.EvTake, 3)) != 0 || len(impl.Values(nil, impl.EvTake, 1)) != 0 || len(impl.Values(events, 9, 9)) != 0 {
		t.Error("values of what there is not")
	}
}

func TestWhatHappenedIsNotWrittenIntoAndNotShared(t *testing.T) {
	r := rand.New(rand.NewSource(9))
	for _, list := range append(longPrograms(t), badPrograms()...) {
		var happened []impl.Event
		if impl.ProgOk(list, impl.MaxProcs) {
			happened = runBy(r, list, 200)
		}
		for _, events := range [][]impl.Event{nil, happened, happened[:len(happened)/2], mixed()} {
			// What is behind the length of an argument is not to be touched either.
			room := append(slices.Clone(events), impl.Event{Kind: -71, Peer: -72, V: -73})
			places := append(slices.Clone(list), impl.Ins{Op: -1, R: -2, A: -3, B: -4, N: -5})
			keptRoom, keptPlaces := slices.Clone(room), slices.Clone(places)
			given, prog := room[:len(events)], places[:len(list)]
			want, wantTrue := wantReplay(prog, given)
			got, ok := impl.Replay(prog, given)
			again, _ := impl.Replay(prog, given)
			overwrite(got.Regs)
			if ok != wantTrue || !slices.Equal(got.Out, want.Out) || !sameState(again, want) {
				t.Errorf("%+v: registers are shared", list)
			}
			overwrite(got.Out)
			if !sameState(again, want) {
				t.Errorf("%+v: what was printed is shared", list)
			}
			values, others := impl.Values(given, 3, 1), impl.Values(given, 3, 1)
			count, place := impl.Count(given, 3, 1), impl.Nth(given, 3, 1, 1)
			overwrite(values)
			if !slices.Equal(others, impl.Values(given, 3, 1)) || count != len(others) || place != impl.Nth(given, 3, 1, 1) {
				t.Errorf("%+v: values are shared", list)
			}
			if !slices.Equal(room, keptRoom) || !slices.Equal(places, keptPlaces) {
				t.Errorf("%+v: an argument was written into", list)
			}
		}
	}
}
