package tests

import (
	"fmt"
	"math"
	"math/rand"
	"slices"
	"sync"
	"testing"

	"loop.example/g00196/impl"
)

func sameShot(a, b impl.Shot) bool {
	return a.On == b.On && slices.Equal(a.Cut, b.Cut) && slices.Equal(a.Open, b.Open) && sameLists(a.Kept, b.Kept)
}

func sameLive(a, b impl.Live) bool { return sameSys(a.S, b.S) && sameShot(a.Shot, b.Shot) }

func cloneShot(x impl.Shot) impl.Shot {
	return impl.Shot{On: x.On, Cut: slices.Clone(x.Cut), Open: slices.Clone(x.Open), Kept: cloneLists(x.Kept)}
}

func cloneLive(l impl.Live) impl.Live { return impl.Live{S: cloneSys(l.S), Shot: cloneShot(l.Shot)} }

func isZeroLive(l impl.Live) bool { return sameLive(l, impl.Live{}) }

// live is a system of which no picture is taken yet, told once more.
func live(s impl.Sys) impl.Live {
	n := len(s.Progs)
	return impl.Live{S: cloneSys(s), Shot: impl.Shot{Cut: many(n, -1), Open: make([]bool, n*n), Kept: make([][]int, n*n)}}
}

// butLive is l with a change to a copy of it.
func butLive(l impl.Live, change func(l *impl.Live)) impl.Live {
	l = cloneLive(l)
	change(&l)
	return l
}

// wantLiveOk is LiveOk, told once more.
func wantLiveOk(l impl.Live) bool {
	n, x := len(l.S.Progs), l.Shot
	if !wantSysOk(l.S) || len(x.Cut) != n || len(x.Open) != n*n || len(x.Kept) != n*n {
		return false
	}
	somebody, marks := false, false
	for b, k := range x.Cut {
		if k > len(l.S.Hist[b]) || k < -1 {
			return false
		}
		somebody = somebody || k >= 0
		for a := range n {
			if k == -1 && (x.Open[n*a+b] || len(x.Kept[n*a+b]) != 0) {
				return false
			}
			marks = marks || slices.Contains(l.S.Ways[n*a+b], impl.Item{Mark: true})
		}
	}
	return x.On == somebody && (somebody || !marks)
}

// drawn draws p in l itself.
func drawn(l *impl.Live, p int) {
	n := len(l.S.Progs)
	l.Shot.On, l.Shot.Cut[p] = true, len(l.S.Hist[p])
	for q := range n {
		l.Shot.Open[n*q+p] = true
		l.S.Ways[n*p+q] = append(slices.Clone(l.S.Ways[n*p+q]), impl.Item{Mark: true})
	}
}

// longest is how many items the longest way from p has.
func longest(s impl.Sys, p int) int {
	most := 0
	for _, way := range s.Ways[len(s.Progs)*p : len(s.Progs)*(p+1)] {
		most = max(most, len(way))
	}
	return most
}

// marks is which code Mark has of what is right, and, where that is ShDone, does it in l itself.
func marks(l *impl.Live, a, b int) int {
	n := len(l.S.Progs)
	if a < 0 || b < 0 || a >= n || b >= n {
		return 2
	}
	way := l.S.Ways[n*a+b]
	if !l.Shot.On || len(way) == 0 || !way[0].Mark {
		return 4
	}
	l.S.Ways[n*a+b] = slices.Clone(way[1:])
	if l.Shot.Cut[b] < 0 {
		if longest(l.S, b) == 12 {
			l.S.Ways[n*a+b] = way
			return 5
		}
		drawn(l, b)
	}
	l.Shot.Open[n*a+b] = false
	return 0
}

// begins is which code Begin has of what is right, and, where that is ShDone, does it in l itself.
func begins(l *impl.Live, p int) int {
	switch {
	case p < 0 || p >= len(l.S.Progs):
		return 2
	case l.Shot.On:
		return 3
	case longest(l.S, p) == 12:
		return 5
	}
	drawn(l, p)
	return 0
}

// steps is which code LiveStep has of what is right, and, where that is RsDone, does it in l itself.
func steps(l *impl.Live, p, peer int) int {
	code := wantCode(l.S, p, peer)
	if code != 0 {
		return code
	}
	play(&l.S, p, peer)
	e := l.S.Hist[p][len(l.S.Hist[p])-1]
	if way := len(l.S.Progs)*e.Peer + p; e.Kind == 3 && l.Shot.Open[way] {
		l.Shot.Kept[way] = append(slices.Clone(l.Shot.Kept[way]), e.V)
	}
	return 0
}

// A turn is one of Begin, Mark and LiveStep with its numbers.
type turn struct {
	name string
	a, b int
}

// told is a turn by its telling.
func (x turn) told(l impl.Live) (impl.Live, int) {
	if !wantLiveOk(l) {
		return impl.Live{}, 1
	}
	l = cloneLive(l)
	switch x.name {
	case "begin":
		return l, begins(&l, x.a)
	case "mark":
		return l, marks(&l, x.a, x.b)
	}
	return l, steps(&l, x.a, x.b)
}

// done is a turn by the program.
func (x turn) done(l impl.Live) (impl.Live, int) {
	switch x.name {
	case "begin":
		return impl.Begin(l, x.a)
	case "mark":
		return impl.Mark(l, x.a, x.b)
	}
	return impl.LiveStep(l, x.a, x.b)
}

func begin(p int) turn { return turn{"begin", p, 0} }

func mark(a, b int) turn { return turn{"mark", a, b} }

func step(p, peer int) turn { return turn{"step", p, peer} }

// holdTurn holds a turn against its telling and against a code, and answers what is behind it.
func holdTurn(t *testing.T, what string, l impl.Live, x turn, code int) impl.Live {
	t.Helper()
	want, told := x.told(l)
	if told != code {
		t.Fatalf("%s: told once more %v is %d, not %d, of %+v", what, x, told, code, l)
	}
	got, how := x.done(l)
	if how != code || !sameLive(got, want) {
		t.Fatalf("%s: %v of %+v is %+v, %d, not %+v, %d", what, x, l, got, how, want, code)
	}
	switch {
	case code == impl.ShBad:
		if !isZeroLive(got) {
			t.Fatalf("%s: it is bad, and %+v", what, got)
		}
	case code != impl.ShDone && !sameLive(got, l):
		t.Fatalf("%s: %v is %d, and it is not as it was: %+v", what, x, code, got)
	case !impl.LiveOk(got):
		t.Fatalf("%s: behind %v it is not right: %+v", what, x, got)
	}
	return got
}

// holdTurns holds turns that are all done, one behind the other.
func holdTurns(t *testing.T, what string, l impl.Live, list ...turn) impl.Live {
	t.Helper()
	for _, x := range list {
		l = holdTurn(t, what, l, x, impl.ShDone)
	}
	return l
}

// wantDone is ShotDone, told once more.
func wantDone(l impl.Live) bool {
	return wantLiveOk(l) && l.Shot.On && !slices.Contains(l.Shot.Cut, -1) && !slices.Contains(l.Shot.Open, true)
}

// wantPicture is Picture, told once more.
func wantPicture(l impl.Live) (impl.Sys, bool) {
	if !wantDone(l) {
		return impl.Sys{}, false
	}
	then, ok := tellingOf(l.S).at(l.Shot.Cut)
	if !ok {
		return impl.Sys{}, false
	}
	for i, way := range then.Ways {
		items := []impl.Item{}
		for _, v := range l.Shot.Kept[i] {
			items = append(items, impl.Item{V: v})
		}
		if !slices.Equal(items, way) {
			return impl.Sys{}, false
		}
	}
	return then, true
}

// holdShot holds ShotDone and Picture against what is told once more and what is said of them, and answers what Picture tells.
func holdShot(t *testing.T, what string, l impl.Live, done, picture bool) impl.Sys {
	t.Helper()
	want, told := wantPicture(l)
	if wantDone(l) != done || told != picture {
		t.Fatalf("%s: told once more it is %v, %v: %+v", what, wantDone(l), told, l)
	}
	if got := impl.ShotDone(l); got != done {
		t.Fatalf("%s: ShotDone(%+v) is %v", what, l, got)
	}
	then, ok := impl.Picture(l)
	if ok != picture || !sameSys(then, want) || !ok && !isZeroSys(then) {
		t.Fatalf("%s: Picture(%+v) is %+v, %v, not %+v, %v", what, l, then, ok, want, told)
	}
	return then
}

// holdWholePicture holds of what is ShotDone that its cut is whole, that what was kept was on the ways, and that what the picture shows comes behind the beginning and ahead of now.
func holdWholePicture(t *testing.T, what string, from impl.Sys, l impl.Live) bool {
	t.Helper()
	if !impl.ShotDone(l) || !impl.Whole(l.S, l.Shot.Cut) {
		t.Fatalf("%s: the cut is not whole: %+v", what, l)
	}
	then, ok := impl.At(l.S, l.Shot.Cut)
	tooMuch := false
	for i, kept := range l.Shot.Kept {
		tooMuch = tooMuch || len(kept) > impl.MaxWay
		if ok && !slices.Equal(impl.Numbers(then.Ways[i]), kept) {
			t.Fatalf("%s: on way %d was %v, and kept is %v", what, i, then.Ways[i], kept)
		}
	}
	picture, shown := impl.Picture(l)
	if shown != ok || ok == tooMuch || !sameSys(picture, then) {
		t.Fatalf("%s: Picture(%+v) is %+v, %v, not %+v, %v", what, l, picture, shown, then, ok)
	}
	if shown && (!impl.SysOk(picture) || !impl.Forth(from, picture) || !impl.Forth(picture, l.S)) {
		t.Fatalf("%s: the picture could not have been: %+v of %+v", what, picture, l)
	}
	return shown
}

// holdOk holds LiveOk against its telling and against what is said of it; of what is not right no other function tells anything.
func holdOk(t *testing.T, what string, l impl.Live, want bool) {
	t.Helper()
	if told := wantLiveOk(l); told != want {
		t.Fatalf("%s: told once more it is %v: %+v", what, told, l)
	}
	if got := impl.LiveOk(l); got != want {
		t.Fatalf("%s: LiveOk(%+v) is %v", what, l, got)
	}
	if want {
		return
	}
	for _, x := range []turn{begin(0), begin(-1), begin(9), mark(0, 0), mark(0, 1), mark(-1, 0), mark(0, 9), step(0, 0), step(1, 0), step(-1, 0), step(9, 9)} {
		if got, how := x.done(l); how != impl.ShBad || !isZeroLive(got) {
			t.Fatalf("%s: %v of %+v is %+v, %d", what, x, l, got, how)
		}
	}
	if then, ok := impl.Picture(l); ok || !isZeroSys(then) || impl.ShotDone(l) {
		t.Fatalf("%s: Picture(%+v) is %+v, %v", what, l, then, ok)
	}
}

func TestCodesOfPictures(t *testing.T) {
	got := []int{impl.ShDone, impl.ShBad, impl.ShNone, impl.ShOn, impl.ShNoMark, impl.ShFull}
	if want := []int{0, 1, 2, 3, 4, 5}; !slices.Equal(got, want) {
		t.Error(got)
	}
}

func TestNewPictures(t *testing.T) {
	list := []impl.Sys{wantNew(pair(t)...), underWay(t), talk(t), sends(t, 0, 0), sends(t, 12, 0), ring(4, 30, 2), worn(t, 2, 1, 200, "end"), stairs(t, 4), flow(t, 3, 2, 0, 30, 18), toOneself(t, 2, 1)}
	for n := 1; n <= 4; n++ {
		list = append(list, wantNew(slices.Repeat([][]impl.Ins{program(t, "end")}, n)...))
	}
	for _, s := range list {
		l := impl.ShotNew(s)
		n := len(s.Progs)
		if !sameLive(l, live(s)) || l.Shot.On || len(l.Shot.Cut) != n || len(l.Shot.Open) != n*n || len(l.Shot.Kept) != n*n {
			t.Errorf("ShotNew(%+v) is %+v", s, l)
		}
		for p := range n {
			if l.Shot.Cut[p] != -1 {
				t.Errorf("%d is drawn: %+v", p, l.Shot)
			}
		}
		holdOk(t, "new", l, true)
		holdShot(t, "new", l, false, false)
	}
	for _, s := range append(wrongSystems(t), wrongInOne(t)...) {
		if l := impl.ShotNew(s); !isZeroLive(l) {
			t.Errorf("ShotNew(%+v) is %+v", s, l)
		}
		holdOk(t, "of what is not right", live(s), false)
		holdOk(t, "of nothing", impl.ShotNew(s), false)
	}
}

// Marks that are on the ways already stay there: it is the system, and no picture can be taken of it.
func TestNewPicturesOfWhatHasMarks(t *testing.T) {
	for _, s := range []impl.Sys{marked(talk(t)), sends(t, 4, 3), sends(t, 0, 12), marked(stairs(t, 4))} {
		l := impl.ShotNew(s)
		if !sameLive(l, live(s)) {
			t.Errorf("ShotNew(%+v) is %+v", s, l)
		}
		holdOk(t, "with marks", l, false)
		holdOk(t, "without them", impl.ShotNew(noMarks(s)), true)
	}
}

// mill is n of which each counts, sends to the next, to the one behind and to itself, and takes from whichever, for ever.
func mill(n int) impl.Sys {
	progs := [][]impl.Ins{}
	for p := range n {
		take := impl.Ins{Op: impl.OpTake, R: 2, N: impl.Any}
		progs = append(progs, []impl.Ins{{Op: impl.OpSet, R: 1, N: 1}, {Op: impl.OpAdd, B: 1}, {Op: impl.OpSend, N: (p + 1) % n}, {Op: impl.OpSend, N: p}, take, {Op: impl.OpSend, N: (p + n - 1) % n}, take, {Op: impl.OpJump, N: 1}})
	}
	return wantNew(progs...)
}

// milled is a mill behind so many turns of chance, in the first of which no picture is begun.
func milled(r *rand.Rand, n, before, behind int) impl.Live {
	l := live(mill(n))
	for range before {
		steps(&l, r.Intn(n), r.Intn(n))
	}
	begins(&l, r.Intn(n))
	for range behind {
		if r.Intn(4) == 0 {
			marks(&l, r.Intn(n), r.Intn(n))
		} else {
			steps(&l, r.Intn(n), r.Intn(n))
		}
	}
	return l
}

// someLives are lives of each number of processes at each stage of a picture.
func someLives(t *testing.T) []impl.Live {
	r := rand.New(rand.NewSource(70))
	list := []impl.Live{live(wantNew(pair(t)...)), live(underWay(t)), live(talk(t))}
	for n := 1; n <= 4; n++ {
		l := live(mill(n))
		list = append(list, cloneLive(l))
		for range 20 {
			steps(&l, r.Intn(n), r.Intn(n))
		}
		list = append(list, cloneLive(l))
		begins(&l, n-1)
		list = append(list, cloneLive(l))
		for range 5000 {
			if stage(l) == 3 {
				break
			}
			steps(&l, r.Intn(n), r.Intn(n))
			if marks(&l, r.Intn(n), r.Intn(n)) == impl.ShDone {
				list = append(list, cloneLive(l))
			}
		}
	}
	for _, l := range list {
		if !wantLiveOk(l) {
			t.Fatalf("it is not right: %+v", l)
		}
	}
	return list
}

// stage is how far a picture is: not begun, somebody not drawn, a way open, done.
func stage(l impl.Live) int {
	switch {
	case !l.Shot.On:
		return 0
	case slices.Contains(l.Shot.Cut, -1):
		return 1
	case slices.Contains(l.Shot.Open, true):
		return 2
	}
	return 3
}

func TestLivesThatAreRight(t *testing.T) {
	seen := [4]int{}
	for _, l := range someLives(t) {
		holdOk(t, "as it is", l, true)
		seen[stage(l)]++
		_, shown := wantPicture(l)
		holdShot(t, "as it is", l, stage(l) == 3, shown)
	}
	if slices.Min(seen[:]) < 4 {
		t.Error("few:", seen)
	}
}

func TestLivesOfSystemsThatAreNot(t *testing.T) {
	for _, l := range someLives(t) {
		n := len(l.S.Progs)
		change := func(what string, change func(s *impl.Sys)) {
			t.Helper()
			holdOk(t, what, butLive(l, func(l *impl.Live) { change(&l.S) }), false)
		}
		for p := range n {
			change("a place", func(s *impl.Sys) { s.States[p].At++ })
			change("a register", func(s *impl.Sys) { s.States[p].Regs[3]++ })
			change("a code", func(s *impl.Sys) { s.States[p].Code = impl.StEnd })
			change("an event", func(s *impl.Sys) { s.Hist[p] = append(s.Hist[p], impl.Event{}) })
			change("no program", func(s *impl.Sys) { s.Progs[p] = nil })
		}
		for i := range n * n {
			change("a number too many", func(s *impl.Sys) { s.Ways[i] = append(s.Ways[i], impl.Item{V: 12345}) })
			change("a mark that has something", func(s *impl.Sys) { s.Ways[i] = append(s.Ways[i], impl.Item{Mark: true, V: 1}) })
			change("items too many", func(s *impl.Sys) {
				s.Ways[i] = append(s.Ways[i], slices.Repeat([]impl.Item{{Mark: true}}, 13-len(s.Ways[i]))...)
			})
		}
		change("no system", func(s *impl.Sys) { *s = impl.Sys{} })
		change("a way less", func(s *impl.Sys) { s.Ways = s.Ways[:n*n-1] })
		change("a way more", func(s *impl.Sys) { s.Ways = append(s.Ways, nil) })
		change("a process more", func(s *impl.Sys) { s.Progs = append(s.Progs, s.Progs[0]) })
	}
	holdOk(t, "nothing", impl.Live{}, false)
	for _, s := range append(wrongSystems(t), wrongInOne(t)...) {
		holdOk(t, "not right", live(s), false)
		holdOk(t, "no shot", impl.Live{S: s}, false)
	}
}

func TestShotsTooShortOrTooLong(t *testing.T) {
	for _, l := range someLives(t) {
		n := len(l.S.Progs)
		change := func(what string, change func(x *impl.Shot)) {
			t.Helper()
			holdOk(t, what, butLive(l, func(l *impl.Live) { change(&l.Shot) }), false)
		}
		change("one too few in the cut", func(x *impl.Shot) { x.Cut = x.Cut[:n-1] })
		change("one too many in the cut, not drawn", func(x *impl.Shot) { x.Cut = append(x.Cut, -1) })
		change("one too many in the cut, drawn", func(x *impl.Shot) { x.Cut = append(x.Cut, 0) })
		change("one way too few to be open", func(x *impl.Shot) { x.Open = x.Open[:n*n-1] })
		change("one way too many that is not open", func(x *impl.Shot) { x.Open = append(x.Open, false) })
		change("one way too many that is open", func(x *impl.Shot) { x.Open = append(x.Open, true) })
		change("one way too few to be kept of", func(x *impl.Shot) { x.Kept = x.Kept[:n*n-1] })
		change("one way too many of which nothing is kept", func(x *impl.Shot) { x.Kept = append(x.Kept, nil) })
		change("one way too many of which something is kept", func(x *impl.Shot) { x.Kept = append(x.Kept, []int{1}) })
		change("no cut", func(x *impl.Shot) { x.Cut = nil })
		change("nothing to be open", func(x *impl.Shot) { x.Open = nil })
		change("nothing to be kept", func(x *impl.Shot) { x.Kept = nil })
		change("nothing", func(x *impl.Shot) { *x = impl.Shot{} })
		change("very much", func(x *impl.Shot) {
			*x = impl.Shot{On: x.On, Cut: many(100000, -1), Open: make([]bool, 100000), Kept: make([][]int, 100000)}
		})
		for m := 1; m <= 4; m++ {
			if m != n {
				change("of another number of processes", func(x *impl.Shot) { *x = live(mill(m)).Shot })
			}
		}
	}
}

func TestCutsOfShotsMetAndPassed(t *testing.T) {
	for n := 1; n <= 4; n++ {
		s := stairs(t, n)
		for p := range n {
			most := len(s.Hist[p])
			for _, k := range append(wild(), -2, most-1, most, most+1, most+2, 199, 200, 201) {
				l := live(s)
				l.Shot.Cut[p], l.Shot.On = k, k >= 0
				holdOk(t, "one is drawn or not", l, k >= -1 && k <= most)
				// All others are drawn; what the others had makes no difference.
				l.Shot.Cut, l.Shot.On = counts(s), true
				l.Shot.Cut[p] = k
				holdOk(t, "all others are drawn", l, k >= -1 && k <= most && (k >= 0 || n > 1))
			}
		}
	}
	for _, events := range []int{199, 200} {
		for k, want := range map[int]bool{-2: false, 0: true, events: true, events + 1: false} {
			l := live(worn(t, 3, 1, events, "print 0"))
			l.Shot.On, l.Shot.Cut[1] = true, k
			holdOk(t, "many events", l, want)
		}
	}
}

func TestWaysToWhoIsNotDrawn(t *testing.T) {
	for n := 1; n <= 4; n++ {
		// Each choice of who is drawn.
		for choice := range 1 << n {
			l := live(stairs(t, n))
			l.Shot.On = choice > 0
			for p := range n {
				if choice>>p&1 == 1 {
					l.Shot.Cut[p] = 0
				}
			}
			holdOk(t, "nothing is open or kept", l, true)
			for i := range n * n {
				want := choice>>(i%n)&1 == 1
				holdOk(t, "open", butLive(l, func(l *impl.Live) { l.Shot.Open[i] = true }), want)
				holdOk(t, "kept", butLive(l, func(l *impl.Live) { l.Shot.Kept[i] = []int{0} }), want)
				holdOk(t, "both", butLive(l, func(l *impl.Live) { l.Shot.Open[i], l.Shot.Kept[i] = true, []int{4, 5} }), want)
				holdOk(t, "kept, an empty list", butLive(l, func(l *impl.Live) { l.Shot.Kept[i] = []int{} }), true)
			}
		}
	}
}

// What was kept may be any number, and any number of them: LiveOk asks only to whom.
func TestAnythingMayBeKept(t *testing.T) {
	l := live(stairs(t, 2))
	l.Shot.On, l.Shot.Cut[1] = true, 0
	for _, kept := range [][]int{wild(), many(5000, math.MinInt), {math.MaxInt}} {
		holdOk(t, "kept", butLive(l, func(l *impl.Live) { l.Shot.Kept[1] = kept }), true)
		holdOk(t, "kept of whom nobody drew", butLive(l, func(l *impl.Live) { l.Shot.Kept[0] = kept }), false)
	}
}

func TestOnJustIfSomebodyIsDrawn(t *testing.T) {
	for _, l := range someLives(t) {
		holdOk(t, "the other way", butLive(l, func(l *impl.Live) { l.Shot.On = !l.Shot.On }), false)
	}
	for n := 1; n <= 4; n++ {
		l := live(stairs(t, n))
		holdOk(t, "nobody, and not On", l, true)
		holdOk(t, "nobody, and On", butLive(l, func(l *impl.Live) { l.Shot.On = true }), false)
		for p := range n {
			for _, on := range []bool{true, false} {
				one := butLive(l, func(l *impl.Live) { l.Shot.On, l.Shot.Cut[p] = on, 0 })
				holdOk(t, "one alone", one, on)
				every := butLive(l, func(l *impl.Live) { l.Shot.On, l.Shot.Cut = on, make([]int, n) })
				holdOk(t, "everybody", every, on)
			}
		}
	}
}

func TestMarksOnlyWithOn(t *testing.T) {
	for n := 1; n <= 4; n++ {
		for i := range n * n {
			s := filled(t, n, i/n, i%n, 3, 0)
			for at := range 4 {
				l := live(s)
				holdOk(t, "no mark", l, true)
				l.S.Ways[i] = slices.Insert(l.S.Ways[i], at, impl.Item{Mark: true})
				holdOk(t, "a mark", l, false)
				l.Shot.On = true
				holdOk(t, "a mark, and On, and nobody drawn", l, false)
				for p := range n {
					holdOk(t, "a mark, and somebody is drawn", butLive(l, func(l *impl.Live) { l.Shot.Cut[p] = 0 }), true)
				}
			}
			l := live(stairs(t, n))
			l.S.Ways[i] = []impl.Item{{Mark: true}}
			holdOk(t, "a mark alone", l, false)
		}
	}
}

func TestBeginSpelledOut(t *testing.T) {
	mark := impl.Item{Mark: true}
	l := holdTurn(t, "of the second", live(underWay(t)), begin(1), impl.ShDone)
	want := impl.Live{S: but(underWay(t), func(s *impl.Sys) { s.Ways = [][]impl.Item{nil, {{V: 7}}, {{V: 5}, mark}, {mark}} }),
		Shot: impl.Shot{On: true, Cut: []int{-1, 3}, Open: []bool{false, true, false, true}, Kept: make([][]int, 4)}}
	if !sameLive(l, want) {
		t.Errorf("%+v", l)
	}
	l = holdTurn(t, "of the first", live(underWay(t)), begin(0), impl.ShDone)
	want = impl.Live{S: but(underWay(t), func(s *impl.Sys) { s.Ways = [][]impl.Item{{mark}, {{V: 7}, mark}, {{V: 5}}, nil} }),
		Shot: impl.Shot{On: true, Cut: []int{6, -1}, Open: []bool{true, false, true, false}, Kept: make([][]int, 4)}}
	if !sameLive(l, want) {
		t.Errorf("%+v", l)
	}
}

// Of each p all ways to it are open and no others, a mark is behind what is on each way from it and on no other, and it alone is drawn.
func TestBeginOfEach(t *testing.T) {
	for n := 1; n <= 4; n++ {
		for _, s := range []impl.Sys{stairs(t, n), mill(n), milled(rand.New(rand.NewSource(71)), n, 30, 0).S, filled(t, n, n-1, 0, 11, 0)} {
			from := live(noMarks(s))
			for p := range n {
				l := holdTurn(t, "each", from, begin(p), impl.ShDone)
				for i := range n * n {
					way, was := l.S.Ways[i], from.S.Ways[i]
					if l.Shot.Open[i] != (i%n == p) || len(l.Shot.Kept[i]) != 0 {
						t.Errorf("way %d of %d: %+v", i, n, l.Shot)
					}
					if i/n == p {
						was = append(slices.Clone(was), impl.Item{Mark: true})
					}
					if !slices.Equal(way, was) {
						t.Errorf("on way %d of %d is %+v", i, n, way)
					}
				}
				for q, k := range l.Shot.Cut {
					if q == p && k != len(s.Hist[p]) || q != p && k != -1 {
						t.Errorf("the cut is %v", l.Shot.Cut)
					}
				}
				if !l.Shot.On || !sameSys(noMarks(l.S), from.S) {
					t.Errorf("%+v", l)
				}
			}
		}
	}
}

func TestBeginOfNobody(t *testing.T) {
	for n := 1; n <= 4; n++ {
		r := rand.New(rand.NewSource(72))
		for _, l := range []impl.Live{live(stairs(t, n)), live(filled(t, n, 0, n-1, 12, 0)), milled(r, n, 20, 20)} {
			for _, p := range append(wild(), -n, -2, n, n+1, n*n) {
				if p < 0 || p >= n {
					holdTurn(t, "nobody", l, begin(p), impl.ShNone)
				}
			}
		}
	}
}

func TestBeginTwice(t *testing.T) {
	for _, l := range someLives(t) {
		for p := range l.S.Progs {
			if l.Shot.On {
				holdTurn(t, "while it is On, or was", l, begin(p), impl.ShOn)
			} else {
				next := holdTurn(t, "once", l, begin(p), impl.ShDone)
				for q := range l.S.Progs {
					holdTurn(t, "twice", next, begin(q), impl.ShOn)
				}
			}
		}
	}
}

func TestBeginWithWaysMetAndPassed(t *testing.T) {
	for n := 1; n <= 4; n++ {
		for i := range n * n {
			a, b := i/n, i%n
			for _, numbers := range []int{0, 1, 10, 11, 12} {
				l := live(filled(t, n, a, b, numbers, 0))
				for p := range n {
					// What is full on the way to p makes no difference, but that from itself.
					code := impl.ShDone
					if p == a && numbers == 12 {
						code = impl.ShFull
					}
					got := holdTurn(t, "so many on a way", l, begin(p), code)
					if p == a && numbers == 11 && len(impl.WayOf(got.S, a, b)) != 12 {
						t.Errorf("%+v", got)
					}
				}
			}
		}
	}
}

// Where two codes of Begin could be told, the one that is named first is.
func TestWhichCodeOfBeginComesFirst(t *testing.T) {
	full := live(filled(t, 2, 0, 1, 12, 0))
	holdTurn(t, "full", full, begin(0), impl.ShFull)
	holdTurn(t, "nobody, though another is full", full, begin(2), impl.ShNone)
	bad := butLive(full, func(l *impl.Live) { l.Shot.Open[0] = true })
	holdTurn(t, "bad, and nobody", bad, begin(-1), impl.ShBad)
	holdTurn(t, "bad, and full", bad, begin(0), impl.ShBad)
	on := holdTurn(t, "of the other", full, begin(1), impl.ShDone)
	holdTurn(t, "On, and full", on, begin(0), impl.ShOn)
	holdTurn(t, "nobody, and On", on, begin(2), impl.ShNone)
	holdTurn(t, "nobody, and On", on, begin(-1), impl.ShNone)
	holdTurn(t, "bad, and On", butLive(on, func(l *impl.Live) { l.Shot.Cut[0] = 201 }), begin(0), impl.ShBad)
	holdTurn(t, "bad, and On, and nobody", butLive(on, func(l *impl.Live) { l.S.States[0].At++ }), begin(7), impl.ShBad)
}

func TestMarksOnNoWay(t *testing.T) {
	for n := 1; n <= 4; n++ {
		r := rand.New(rand.NewSource(73))
		for _, l := range []impl.Live{live(stairs(t, n)), milled(r, n, 0, 0), milled(r, n, 20, 20)} {
			for _, a := range append(wild(), -n, -2, n, n+1, n*n) {
				for _, b := range append(wild(), -n, n, 1-n) {
					if a < 0 || a >= n || b < 0 || b >= n {
						holdNoWay(t, l, a, b)
					}
				}
			}
		}
	}
}

// holdNoWay holds that there is no way from a to b, though the number it would have be that of another.
func holdNoWay(t *testing.T, l impl.Live, a, b int) {
	t.Helper()
	if got, how := impl.Mark(l, a, b); how != impl.ShNone || !sameLive(got, l) {
		t.Fatalf("Mark(%+v, %d, %d) is %+v, %d", l, a, b, got, how)
	}
}

func TestNoMarkIsFirst(t *testing.T) {
	for n := 1; n <= 4; n++ {
		for i := range n * n {
			a, b := i/n, i%n
			for _, numbers := range []int{0, 1, 11, 12} {
				l := live(filled(t, n, a, b, numbers, 0))
				for j := range n * n {
					holdTurn(t, "not On", l, mark(j/n, j%n), impl.ShNoMark)
				}
				if numbers == 12 {
					continue
				}
				// With numbers first, the mark behind them is not found; on ways from others there is none.
				l = holdTurn(t, "begun", l, begin(a), impl.ShDone)
				for j := range n * n {
					code := impl.ShNoMark
					if j/n == a && (j%n != b || numbers == 0) {
						code = impl.ShDone
					}
					holdTurn(t, "On", l, mark(j/n, j%n), code)
				}
			}
		}
	}
	// A number first, and marks all behind it.
	l := live(filled(t, 2, 0, 1, 1, 0))
	l.Shot.On, l.Shot.Cut[0] = true, 0
	l.S.Ways[1] = append(l.S.Ways[1], slices.Repeat([]impl.Item{{Mark: true}}, 11)...)
	holdTurn(t, "a number first", l, mark(0, 1), impl.ShNoMark)
	l.S.Ways[1] = append(l.S.Ways[1][1:], l.S.Ways[1][0])
	holdTurn(t, "a number last", l, mark(0, 1), impl.ShDone)
}

// A mark is taken behind the numbers ahead of it, and not sooner.
func TestAMarkBehindNumbers(t *testing.T) {
	progs := [][]impl.Ins{program(t, "set 0 7", "send 1 0", "send 1 0", "send 1 0", "end"), program(t, "take 1 0", "jump 0")}
	l := holdTurns(t, "two are sent", live(wantNew(progs...)), step(0, 0), step(0, 0), step(0, 0), begin(0), step(0, 0))
	for range 2 {
		holdTurn(t, "numbers first", l, mark(0, 1), impl.ShNoMark)
		l = holdTurns(t, "taken", l, step(1, 0), step(1, 0))
	}
	holdTurn(t, "the mark is first", l, step(1, 0), impl.RsMark)
	l = holdTurns(t, "the mark", l, mark(0, 1))
	holdTurn(t, "a number behind it", l, mark(0, 1), impl.ShNoMark)
	l = holdTurns(t, "the third is taken", l, step(1, 0))
	if l.Shot.Cut[0] != 3 || l.Shot.Cut[1] != 4 || len(l.Shot.Kept[1]) != 0 {
		t.Errorf("%+v", l)
	}
	l = holdTurns(t, "to its end", l, mark(1, 0), mark(0, 0), mark(1, 1))
	then := holdShot(t, "done", l, true, true)
	if !sameSys(then, played(t, progs, 0, 0, 0, 1, 1, 1, 1)) {
		t.Errorf("%+v", then)
	}
}

// Of each way, by the mark on it who was not drawn is drawn: all other ways to it are open, and a mark is behind all that is on each way from it.
func TestAMarkDraws(t *testing.T) {
	for n := 2; n <= 4; n++ {
		for i := range n * n {
			a, b := i/n, i%n
			for _, left := range []int{0, 1, 11} {
				l := milled(rand.New(rand.NewSource(74)), n, 30, 0)
				// What is drawn besides b, and what is open and kept of these, stays.
				l.Shot = live(l.S).Shot
				l.Shot.On = true
				for q := range n {
					if q != b {
						l.Shot.Cut[q], l.Shot.Open[n*b+q], l.Shot.Kept[n*a+q] = q, true, []int{q, 5}
					}
				}
				l.S.Ways[i] = append([]impl.Item{{Mark: true}}, l.S.Ways[i]...)
				l.S.Ways[i] = append(l.S.Ways[i], slices.Repeat([]impl.Item{{Mark: true}}, max(0, left-len(l.S.Ways[i])))...)
				got := holdTurn(t, "it draws", l, mark(a, b), impl.ShDone)
				for j := range n * n {
					want := l.S.Ways[j]
					if j == i {
						want = want[1:]
					}
					if j/n == b {
						want = append(slices.Clone(want), impl.Item{Mark: true})
					}
					if !slices.Equal(got.S.Ways[j], want) || !slices.Equal(got.Shot.Kept[j], l.Shot.Kept[j]) {
						t.Fatalf("way %d is %+v", j, got.S.Ways[j])
					}
					open := l.Shot.Open[j] || j%n == b && j/n != a
					if got.Shot.Open[j] != open {
						t.Fatalf("way %d of %d behind a mark from %d to %d: %+v", j, n, a, b, got.Shot)
					}
				}
				cut := slices.Clone(l.Shot.Cut)
				cut[b] = len(l.S.Hist[b])
				if !slices.Equal(got.Shot.Cut, cut) || !got.Shot.On {
					t.Fatalf("%+v", got.Shot)
				}
			}
		}
	}
}

// Of who is drawn the mark is taken and the way shut, and nothing else turns; also where it was shut already, and where all ways from it are full.
func TestAMarkShuts(t *testing.T) {
	for n := 1; n <= 4; n++ {
		for i := range n * n {
			for _, open := range []bool{true, false} {
				for _, more := range []int{0, 1, 11} {
					l := live(stairs(t, n))
					l.Shot.On, l.Shot.Cut = true, make([]int, n)
					for j := range n * n {
						l.Shot.Open[j], l.Shot.Kept[j] = true, []int{j}
						l.S.Ways[j] = slices.Repeat([]impl.Item{{Mark: true}}, more+1)
					}
					l.Shot.Open[i] = open
					want := butLive(l, func(l *impl.Live) { l.S.Ways[i], l.Shot.Open[i] = l.S.Ways[i][1:], false })
					if got := holdTurn(t, "it shuts", l, mark(i/n, i%n), impl.ShDone); !sameLive(got, want) {
						t.Fatalf("%+v", got)
					}
				}
			}
		}
	}
}

func TestMarksWithWaysMetAndPassed(t *testing.T) {
	codes := [6]int{}
	for n := 1; n <= 4; n++ {
		for i := range n * n {
			a, b := i/n, i%n
			for j := range n * n {
				for items := 10; items <= 12; items++ {
					l := live(stairs(t, n))
					l.S.Ways[i] = []impl.Item{{Mark: true}}
					l.S.Ways[j] = slices.Repeat([]impl.Item{{Mark: true}}, items)
					// Where b alone is there, nobody is drawn who could have sent the mark.
					if n == 1 {
						holdOk(t, "nobody is drawn", l, false)
						continue
					}
					other := (b + 1) % n
					l.Shot.On, l.Shot.Cut[other] = true, 0
					code := impl.ShDone
					// The mark that is taken makes room on the way from b to itself.
					if j/n == b && items == 12 && j != i {
						code = impl.ShFull
					}
					holdTurn(t, "so many on a way", l, mark(a, b), code)
					codes[code]++
					l.Shot.Cut[b] = 0
					holdTurn(t, "drawn already", l, mark(a, b), impl.ShDone)
				}
			}
		}
	}
	if codes[impl.ShDone] < 500 || codes[impl.ShFull] < 60 {
		t.Error("few:", codes)
	}
}

// Until there is room on all ways from b no mark can draw it; then it can.
func TestFullUntilSomethingIsTaken(t *testing.T) {
	progs := [][]impl.Ins{program(t, "take 1 1", "jump 0"), program(t, "set 0 3", "send 0 0", "jump 1"), program(t, "end")}
	l := live(wantNew(progs...))
	l = holdTurns(t, "it sets", l, step(1, 0))
	for range 11 {
		l = holdTurns(t, "it sends", l, step(1, 0), step(1, 0))
	}
	l = holdTurns(t, "begun, and one more is sent", l, begin(2), step(1, 0))
	holdTurn(t, "full", l, mark(2, 1), impl.ShFull)
	holdTurn(t, "full for its send, too", holdTurns(t, "it jumps", l, step(1, 0)), step(1, 0), impl.RsFull)
	l = holdTurns(t, "one is taken", l, step(0, 0), mark(2, 1))
	if !slices.Equal(l.Shot.Cut, []int{-1, 24, 0}) || len(l.S.Ways[3]) != 12 {
		t.Errorf("%+v", l)
	}
}

// Where two codes of Mark could be told, the one that is named first is.
func TestWhichCodeOfMarkComesFirst(t *testing.T) {
	l := holdTurns(t, "begun", live(filled(t, 3, 1, 2, 12, 0)), begin(0))
	holdTurn(t, "full", l, mark(0, 1), impl.ShFull)
	holdTurn(t, "not the other", l, mark(0, 2), impl.ShDone)
	holdTurn(t, "no mark, and full", l, mark(1, 1), impl.ShNoMark)
	holdTurn(t, "no mark, and full", l, mark(2, 1), impl.ShNoMark)
	for _, no := range []int{-1, 3, math.MaxInt, math.MinInt} {
		holdTurn(t, "no way, and full", l, mark(no, 1), impl.ShNone)
		holdTurn(t, "no way, and no mark", l, mark(1, no), impl.ShNone)
	}
	bad := butLive(l, func(l *impl.Live) { l.Shot.Open[1] = true })
	holdTurn(t, "bad, and full", bad, mark(0, 1), impl.ShBad)
	holdTurn(t, "bad, and no mark", bad, mark(1, 1), impl.ShBad)
	holdTurn(t, "bad, and no way", bad, mark(3, 3), impl.ShBad)
	off := live(filled(t, 3, 1, 2, 12, 0))
	holdTurn(t, "not On, and full", off, mark(0, 1), impl.ShNoMark)
	holdTurn(t, "no way, and not On", off, mark(0, 3), impl.ShNone)
}

func TestMarksToOneself(t *testing.T) {
	for n := 1; n <= 4; n++ {
		for p := range n {
			progs := slices.Repeat([][]impl.Ins{program(t, "end")}, n)
			progs[p] = []impl.Ins{{Op: impl.OpSet, N: 6}, {Op: impl.OpSend, N: p}, {Op: impl.OpTake, R: 1, N: p}, {Op: impl.OpJump, N: 1}}
			l := holdTurns(t, "sent", live(wantNew(progs...)), step(p, 0), step(p, 0), begin(p))
			if !slices.Equal(impl.WayOf(l.S, p, p), []impl.Item{{V: 6}, {Mark: true}}) || !l.Shot.Open[n*p+p] {
				t.Errorf("%+v", l)
			}
			holdTurn(t, "its number first", l, mark(p, p), impl.ShNoMark)
			l = holdTurns(t, "taken", l, step(p, p))
			if !slices.Equal(l.Shot.Kept[n*p+p], []int{6}) {
				t.Errorf("%+v", l)
			}
			// What is sent behind the mark is not of the picture.
			l = holdTurns(t, "sent again", l, step(p, 0), step(p, 0))
			holdTurn(t, "a mark first", l, step(p, 0), impl.RsMark)
			l = holdTurns(t, "to itself", l, mark(p, p), step(p, 0))
			if l.Shot.Open[n*p+p] || !slices.Equal(l.Shot.Kept[n*p+p], []int{6}) || len(impl.WayOf(l.S, p, p)) != 0 {
				t.Errorf("%+v", l)
			}
			holdShot(t, "of one", l, n == 1, n == 1)
		}
	}
	// One that is not drawn is drawn by its own mark too: that way is shut, all others to it are open.
	for n := 2; n <= 4; n++ {
		for p := range n {
			l := live(stairs(t, n))
			l.Shot.On, l.Shot.Cut[(p+1)%n] = true, 0
			l.S.Ways[n*p+p] = slices.Repeat([]impl.Item{{Mark: true}}, 12)
			l = holdTurn(t, "by its own mark", l, mark(p, p), impl.ShDone)
			for q := range n {
				if l.Shot.Open[n*q+p] != (q != p) || len(l.S.Ways[n*p+q]) == 0 {
					t.Errorf("%+v", l)
				}
			}
			if len(l.S.Ways[n*p+p]) != 12 || l.Shot.Cut[p] != len(l.S.Hist[p]) {
				t.Errorf("%+v", l)
			}
		}
	}
}

func TestEachCodeOfStepsWhileAPictureIsTaken(t *testing.T) {
	cases := []struct {
		what    string
		s       impl.Sys
		p, peer int
		code    int
	}{
		{"nobody", underWay(t), 2, 0, impl.RsNone}, {"nobody", underWay(t), -1, 0, impl.RsNone}, {"far", underWay(t), math.MaxInt, math.MinInt, impl.RsNone},
		{"no peer", wantNew(program(t, "take 0 any", "end")), 0, 1, impl.RsNone}, {"no peer", wantNew(program(t, "take 0 any", "end")), 0, -1, impl.RsNone},
		{"over", crowd(t), 1, 0, impl.RsOver}, {"many events", worn(t, 2, 1, 200, "set 0 1"), 1, 0, impl.RsFull}, {"a full way", sends(t, 12, 0), 0, 0, impl.RsFull},
		{"nothing on the way", crowd(t), 2, 3, impl.RsWait}, {"a local one", crowd(t), 0, 9, impl.RsDone}, {"a send", crowd(t), 3, 0, impl.RsDone},
		{"a take", underWay(t), 0, 0, impl.RsDone}, {"one less than many events", worn(t, 2, 1, 199, "print 0"), 1, 0, impl.RsDone},
	}
	for _, c := range cases {
		n := len(c.s.Progs)
		holdTurn(t, c.what, live(c.s), step(c.p, c.peer), c.code)
		for q := range n {
			l := live(c.s)
			l.Shot.On, l.Shot.Cut[q] = true, 0
			for a := range n {
				l.Shot.Open[n*a+q], l.Shot.Kept[n*a+q] = true, []int{a}
			}
			holdTurn(t, c.what+", On", l, step(c.p, c.peer), c.code)
		}
	}
	marked := live(underWay(t))
	marked.Shot.On, marked.Shot.Cut[0] = true, 0
	marked.S.Ways[2] = slices.Insert(marked.S.Ways[2], 0, impl.Item{Mark: true})
	holdTurn(t, "a mark first", marked, step(0, 0), impl.RsMark)
	holdTurn(t, "bad", butLive(marked, func(l *impl.Live) { l.Shot.On = false }), step(0, 0), impl.ShBad)
	holdTurn(t, "bad, and nobody", butLive(marked, func(l *impl.Live) { l.Shot.Cut[1] = 201 }), step(7, 0), impl.ShBad)
	holdTurn(t, "bad, and it waits", butLive(marked, func(l *impl.Live) { l.S.Ways[1] = nil }), step(1, 0), impl.ShBad)
}

// What a take took stands behind what is kept of its way just if that way is open; nothing else of the Shot turns.
func TestTakesFromWaysOpenAndNot(t *testing.T) {
	for n := 1; n <= 4; n++ {
		for p := range n {
			for from := range n {
				for choice := range 4 {
					progs := slices.Repeat([][]impl.Ins{program(t, "end")}, n)
					progs[p] = []impl.Ins{{Op: impl.OpTake, R: 2, N: []int{from, impl.Any}[choice/2]}, {Op: impl.OpJump}}
					list := []impl.Ins{{Op: impl.OpSet, N: 41}, {Op: impl.OpSend, N: p}, {Op: impl.OpSet, N: -42}, {Op: impl.OpSend, N: p}}
					progs[from] = append(list, progs[from]...)
					if from == p {
						progs[p][len(progs[p])-1].N = 4
					}
					l := live(wantNew(progs...))
					for range 4 {
						steps(&l, from, 0)
					}
					l.Shot.On, l.Shot.Cut = true, make([]int, n)
					way := n*from + p
					for j := range n * n {
						// Either this way alone is open, or all but this one.
						l.Shot.Open[j], l.Shot.Kept[j] = (j == way) == (choice%2 == 0), []int{j, 7}
					}
					want := cloneShot(l.Shot)
					for _, v := range []int{41, -42} {
						l = holdTurn(t, "a take", l, step(p, from), impl.RsDone)
						if choice%2 == 0 {
							want.Kept[way] = append(want.Kept[way], v)
						}
						if !sameShot(l.Shot, want) || l.S.States[p].Regs[2] != v {
							t.Fatalf("%+v, not %+v", l.Shot, want)
						}
						l = holdTurn(t, "a jump", l, step(p, from), impl.RsDone)
					}
					holdTurn(t, "nothing more", l, step(p, from), impl.RsWait)
				}
			}
		}
	}
}

// Without a picture a step is a step, and nothing is kept.
func TestStepsWithoutAPicture(t *testing.T) {
	r := rand.New(rand.NewSource(75))
	takes := 0
	for range 60 {
		s := someChat(r, 0)
		n := len(s.Progs)
		l := impl.ShotNew(s)
		for range 40 {
			p, peer := r.Intn(n+1), r.Intn(n)
			after, code := impl.Step(l.S, p, peer)
			next := holdTurn(t, "alone", l, step(p, peer), code)
			if !sameSys(next.S, after) || !sameShot(next.Shot, live(s).Shot) {
				t.Fatalf("%+v, not %+v", next, after)
			}
			if code == impl.RsDone && next.S.Hist[p][len(next.S.Hist[p])-1].Kind == impl.EvTake {
				takes++
			}
			l = next
		}
	}
	if takes < 100 {
		t.Error("few:", takes)
	}
}

// A send goes behind the marks that are on its way, and the Shot stays.
func TestSendsBehindMarks(t *testing.T) {
	for n := 1; n <= 4; n++ {
		for i := range n * n {
			a, b := i/n, i%n
			for _, numbers := range []int{0, 5, 10} {
				l := holdTurns(t, "begun", live(filled(t, n, a, b, numbers, 0)), begin(a))
				got := holdTurns(t, "sent", l, step(a, 0))
				way := impl.WayOf(got.S, a, b)
				if len(way) != numbers+2 || way[numbers] != (impl.Item{Mark: true}) || way[numbers+1] != (impl.Item{V: 8}) || !sameShot(got.Shot, l.Shot) {
					t.Errorf("%+v", got)
				}
			}
			// The mark takes the last room.
			l := holdTurns(t, "begun", live(filled(t, n, a, b, 11, 0)), begin(a))
			holdTurn(t, "full", l, step(a, 0), impl.RsFull)
		}
	}
}

// sweep takes all marks that are first, again and again, and answers how many it took.
func sweep(t *testing.T, l impl.Live) (impl.Live, int) {
	t.Helper()
	n, took := len(l.S.Progs), 0
	for more := true; more; {
		more = false
		for i := range n * n {
			if way := l.S.Ways[i]; len(way) > 0 && way[0].Mark {
				holdShot(t, "not yet", l, false, false)
				l, more = holdTurn(t, "swept", l, mark(i/n, i%n), impl.ShDone), true
				took++
			}
		}
	}
	return l, took
}

// With nothing on the ways the marks alone end the picture, as many as there are ways, from whomever it is begun.
func TestPicturesByMarksAlone(t *testing.T) {
	for n := 1; n <= 4; n++ {
		for p := range n {
			for _, s := range []impl.Sys{stairs(t, n), wantNew(slices.Repeat([][]impl.Ins{program(t, "end")}, n)...)} {
				l, took := sweep(t, holdTurns(t, "begun", live(s), begin(p)))
				then := holdShot(t, "swept", l, true, true)
				if took != n*n || !sameSys(then, s) || !sameSys(l.S, s) || !slices.Equal(l.Shot.Cut, counts(s)) {
					t.Errorf("%d marks: %+v", took, l)
				}
				holdWholePicture(t, "swept", s, l)
				for q := range n {
					holdTurn(t, "once more", l, begin(q), impl.ShOn)
					holdTurn(t, "no mark is left", l, mark(q, p), impl.ShNoMark)
				}
			}
		}
	}
}

func TestWhatIsNotDone(t *testing.T) {
	for n := 1; n <= 4; n++ {
		done := live(stairs(t, n))
		done.Shot.On, done.Shot.Cut = true, counts(done.S)
		holdShot(t, "done", done, true, true)
		for i := range n * n {
			holdShot(t, "a way is open", butLive(done, func(l *impl.Live) { l.Shot.Open[i] = true }), false, false)
			// A mark that is left on a way is none of what ShotDone asks for.
			holdShot(t, "a mark is left", butLive(done, func(l *impl.Live) { l.S.Ways[i] = []impl.Item{{Mark: true}} }), true, true)
			holdShot(t, "something was kept", butLive(done, func(l *impl.Live) { l.Shot.Kept[i] = []int{0} }), true, false)
		}
		for p := range n {
			holdShot(t, "one is not drawn", butLive(done, func(l *impl.Live) { l.Shot.Cut[p], l.Shot.On = -1, n > 1 }), false, false)
			holdShot(t, "one is drawn alone", butLive(done, func(l *impl.Live) {
				l.Shot.Cut = many(n, -1)
				l.Shot.Cut[p] = 0
			}), n == 1, n == 1)
			holdShot(t, "drawn with more than it had", butLive(done, func(l *impl.Live) { l.Shot.Cut[p]++ }), false, false)
			holdShot(t, "drawn with nothing", butLive(done, func(l *impl.Live) { l.Shot.Cut[p] = 0 }), true, true)
			holdShot(t, "a state is wrong", butLive(done, func(l *impl.Live) { l.S.States[p].At++ }), false, false)
		}
		holdShot(t, "not On", butLive(done, func(l *impl.Live) { l.Shot.On = false }), false, false)
		holdShot(t, "nobody is drawn", live(done.S), false, false)
	}
	holdShot(t, "nothing", impl.Live{}, false, false)
}

// A picture with numbers on two ways, and one behind a mark that is not of it, step by step.
func TestAPictureSpelledOut(t *testing.T) {
	progs := [][]impl.Ins{program(t, "set 0 5", "send 1 0", "set 0 6", "send 1 0", "set 0 7", "send 1 0", "take 1 1", "print 1", "end"),
		program(t, "set 3 9", "send 0 3", "take 0 any", "take 1 any", "take 2 any", "end")}
	l := holdTurns(t, "ahead", live(wantNew(progs...)), step(0, 0), step(0, 0), step(0, 0), step(1, 0), step(1, 0))
	from := cloneSys(l.S)
	l = holdTurns(t, "begun", l, begin(1), step(1, 0))
	if !slices.Equal(l.Shot.Kept[1], []int{5}) {
		t.Errorf("%+v", l.Shot)
	}
	// Not drawn yet, the first goes on: what it sends now is of the picture, and what comes to it not.
	l = holdTurns(t, "the first goes on", l, step(0, 0), step(1, 0), step(0, 0), step(0, 0), step(0, 0), step(0, 0))
	l = holdTurns(t, "the first is drawn", l, mark(1, 0))
	if !slices.Equal(l.Shot.Cut, []int{8, 2}) || !slices.Equal(l.Shot.Open, []bool{true, true, false, true}) {
		t.Errorf("%+v", l.Shot)
	}
	l = holdTurns(t, "to its end", l, step(0, 0), mark(1, 1), mark(0, 0), step(1, 0))
	holdShot(t, "one way is open", l, false, false)
	l = holdTurns(t, "the last mark", l, mark(0, 1))
	then := holdShot(t, "done", l, true, true)
	if !sameLists(l.Shot.Kept, [][]int{nil, {5, 6, 7}, nil, nil}) || !slices.Equal(impl.Printed(then, 0), []int{9}) || !slices.Equal(impl.Numbers(impl.WayOf(then, 0, 1)), []int{5, 6, 7}) {
		t.Errorf("%+v", l)
	}
	if !sameSys(then, played(t, progs, 0, 0, 0, 1, 1, 0, 0, 0, 0, 0)) {
		t.Errorf("%+v", then)
	}
	holdWholePicture(t, "spelled out", from, l)
	// What was kept must be what was on the ways: as many, in order, on their way.
	for _, kept := range [][][]int{{nil, nil, nil, nil}, {nil, {5, 6}, nil, nil}, {nil, {5, 6, 7, 7}, nil, nil}, {nil, {5, 7, 6}, nil, nil}, {nil, {6, 7}, nil, nil}, {nil, {5, 6, 8}, nil, nil}, {{5, 6, 7}, nil, nil, nil}, {nil, nil, {5, 6, 7}, nil}, {nil, {5, 6, 7}, {9}, nil}, {nil, {5, 6, 7}, nil, {0}}} {
		holdShot(t, "something else was kept", butLive(l, func(l *impl.Live) { l.Shot.Kept = kept }), true, false)
	}
	// The take of 9 is in the cut without its send.
	holdShot(t, "not whole", butLive(l, func(l *impl.Live) { l.Shot.Cut[1] = 1 }), true, false)
	holdShot(t, "another cut", butLive(l, func(l *impl.Live) { l.Shot.Cut[0] = 5 }), true, false)
	holdShot(t, "another cut with the same on the ways", butLive(l, func(l *impl.Live) { l.Shot.Cut[0] = 7 }), true, true)
}

// pour has the second drawn first; then the first sends so many numbers, each of which is taken at once, ahead of being drawn.
func pour(t *testing.T, count int) (impl.Sys, impl.Live) {
	t.Helper()
	progs := [][]impl.Ins{program(t, "set 1 1", "add 0 0 1", "send 1 0", "jump 1"), program(t, "take 0 0", "jump 0")}
	from := wantNew(progs...)
	l := holdTurns(t, "begun", live(from), begin(1), mark(1, 1), step(0, 0))
	for range count {
		l = holdTurns(t, "poured", l, step(0, 0), step(0, 0), step(0, 0), step(1, 0), step(1, 0))
	}
	return from, holdTurns(t, "the first is drawn", l, mark(1, 0), mark(0, 0), mark(0, 1))
}

// More may be kept than a way can have: then there is no system at the cut, though it is whole.
func TestPicturesWithWaysMetAndPassed(t *testing.T) {
	for _, count := range []int{0, 1, 11, 12, 13, 14, 40} {
		from, l := pour(t, count)
		if len(l.Shot.Kept[1]) != count || !impl.Whole(l.S, l.Shot.Cut) {
			t.Errorf("%+v", l)
		}
		holdShot(t, "poured", l, true, count <= 12)
		if holdWholePicture(t, "poured", from, l) != (count <= 12) {
			t.Errorf("with %d kept", count)
		}
	}
	// Nothing being kept makes it no other.
	_, l := pour(t, 13)
	l.Shot.Kept[1] = nil
	holdShot(t, "nothing is kept", l, true, false)
	// Where the way to oneself had too many earlier, likewise.
	for p := range 2 {
		for k := range 23 {
			l := live(toOneself(t, 2, p))
			l.Shot.On, l.Shot.Cut[p], l.Shot.Cut[1-p] = true, k, 0
			on := min(k, 28-k)
			if k <= 14 {
				on = k
			}
			l.Shot.Kept[3*p] = make([]int, on)
			holdShot(t, "to oneself", l, true, on <= 12)
		}
	}
}

// turnsOf is each turn of n processes that can make a difference.
func turnsOf(n int) []turn {
	list := []turn{}
	for a := range n {
		list = append(list, begin(a))
		for b := range n {
			list = append(list, mark(a, b), step(a, b))
		}
	}
	return list
}

// Of small systems each picture in each order of turns is whole, and shows what was.
func TestEveryPictureOfSmallSystems(t *testing.T) {
	small := [][][]impl.Ins{
		{program(t, "set 0 5", "send 0 0", "send 0 0", "take 1 0", "take 1 any", "end")},
		{program(t, "set 0 5", "send 1 0", "take 1 1", "end"), program(t, "take 0 any", "send 0 0", "end")},
		{program(t, "send 1 0", "set 0 1", "send 1 0", "end"), program(t, "take 0 0", "take 1 0", "end")},
		{program(t, "send 1 0", "take 1 1"), program(t, "send 1 0", "take 1 any", "send 0 0", "take 1 any")},
	}
	for _, progs := range small {
		from := wantNew(progs...)
		open, seen, dones, cuts := []impl.Live{live(from)}, map[string]bool{}, 0, map[string]bool{}
		for len(open) > 0 {
			l := open[len(open)-1]
			open = open[:len(open)-1]
			for _, x := range turnsOf(len(progs)) {
				want, code := x.told(l)
				got, how := x.done(l)
				if how != code || !sameLive(got, want) {
					t.Fatalf("%v of %+v is %+v, %d, not %+v, %d", x, l, got, how, want, code)
				}
				key := fmt.Sprint(got)
				if code != 0 || seen[key] {
					continue
				}
				seen[key] = true
				open = append(open, got)
				if impl.ShotDone(got) != wantDone(got) || !impl.LiveOk(got) {
					t.Fatalf("%+v", got)
				}
				if wantDone(got) {
					dones++
					cuts[fmt.Sprint(got.Shot.Cut)] = true
					if !holdWholePicture(t, "small", from, got) {
						t.Fatalf("no picture: %+v", got)
					}
				}
			}
		}
		if dones < 20 || len(cuts) < 5 {
			t.Error("few:", dones, cuts)
		}
	}
}

// someTurnOf is a turn by chance, at times with a number that is none.
func someTurnOf(r *rand.Rand, l impl.Live) turn {
	n := len(l.S.Progs)
	x := step(r.Intn(n), r.Intn(n))
	switch {
	case r.Intn(3) == 0:
		x = mark(r.Intn(n), r.Intn(n))
	case r.Intn(12) == 0:
		x = begin(r.Intn(n))
	}
	switch r.Intn(30) {
	case 0:
		x.a = wild()[r.Intn(len(wild()))]
	case 1:
		x.b = wild()[r.Intn(len(wild()))]
	}
	return x
}

// Each turn by chance is what is told of it, and each picture that comes to its end is whole.
func TestPicturesByChance(t *testing.T) {
	r := rand.New(rand.NewSource(76))
	codes := map[string][7]int{}
	dones, kept, far := 0, 0, 0
	for k := range 260 {
		s := someChat(r, 0)
		switch k % 4 {
		case 0:
			s = noMarks(someSys(r, r.Intn(40)))
		case 1:
			n := r.Intn(4) + 1
			s = noMarks(milled(r, n, r.Intn(n*90), 0).S)
		}
		l := impl.ShotNew(s)
		for range 90 {
			x := someTurnOf(r, l)
			_, code := x.told(l)
			if x.name == "begin" && code == 0 {
				s = cloneSys(l.S)
			}
			l = holdTurn(t, "by chance", l, x, code)
			list := codes[x.name]
			list[code]++
			codes[x.name] = list
			_, shown := wantPicture(l)
			holdShot(t, "by chance", l, stage(l) == 3, shown)
		}
		if stage(l) < 3 {
			continue
		}
		holdWholePicture(t, "by chance", s, l)
		dones++
		for _, list := range l.Shot.Kept {
			kept += len(list)
		}
		if !slices.Equal(l.Shot.Cut, counts(s)) {
			far++
		}
	}
	for name, least := range map[string][7]int{"begin": {100, 0, 10, 100, 0, 10}, "mark": {500, 0, 100, 0, 1000, 3}, "step": {2000, 0, 50, 100, 30, 100, 100}} {
		for code, count := range least {
			if codes[name][code] < count {
				t.Error("few:", codes)
			}
		}
	}
	if dones < 60 || kept < 60 || far < 20 {
		t.Error("few:", dones, kept, far)
	}
}

// handMade is a system of which everybody is drawn at a cut, with what was on the ways then, whether that could be or not.
func handMade(r *rand.Rand) impl.Live {
	s := someChat(r, r.Intn(50))
	if r.Intn(3) == 0 {
		s = someSys(r, r.Intn(90))
	}
	l, n := live(s), len(s.Progs)
	l.Shot.On, l.Shot.Cut = true, someCut(r, s)
	if r.Intn(3) > 0 {
		l.Shot.Cut = tellingOf(s).closed(l.Shot.Cut)
	}
	for i := range n * n {
		sent := impl.Values(s.Hist[i/n][:l.Shot.Cut[i/n]], impl.EvSend, i%n)
		took := impl.Count(s.Hist[i%n][:l.Shot.Cut[i%n]], impl.EvTake, i/n)
		l.Shot.Kept[i] = sent[min(took, len(sent)):]
	}
	return l
}

// someLiveTurn changes one thing of what is drawn and kept.
func someLiveTurn(r *rand.Rand, l *impl.Live) {
	n := len(l.S.Progs)
	p, i := r.Intn(n), r.Intn(n*n)
	list := l.Shot.Kept[i]
	switch r.Intn(10) {
	case 0:
		l.Shot.On = !l.Shot.On
	case 1:
		l.Shot.Cut[p] = []int{-2, -1, 0, len(l.S.Hist[p]), len(l.S.Hist[p]) + 1, math.MinInt, math.MaxInt}[r.Intn(7)]
	case 2:
		l.Shot.Open[i] = !l.Shot.Open[i]
	case 3:
		l.Shot.Kept[i] = slices.Insert(slices.Clone(list), r.Intn(len(list)+1), r.Intn(3))
	case 4:
		l.Shot.Kept[i] = slices.Clone(list[min(1, len(list)):])
	case 5:
		l.Shot.Kept[i] = append(slices.Clone(list), 0)
	case 6:
		l.Shot.Cut = l.Shot.Cut[:n-1]
	case 7:
		someTurn(r, &l.S)
	case 8:
		l.S.Ways[i] = slices.Insert(slices.Clone(l.S.Ways[i]), r.Intn(len(l.S.Ways[i])+1), impl.Item{Mark: true})
	case 9:
		j := r.Intn(n * n)
		l.Shot.Kept[i], l.Shot.Kept[j] = l.Shot.Kept[j], l.Shot.Kept[i]
	}
}

// Of what is made by hand, and of what is changed in one thing, all is as it is told.
func TestHandMadePicturesByChance(t *testing.T) {
	r := rand.New(rand.NewSource(77))
	right, done, shown := [2]int{}, [2]int{}, [2]int{}
	count := func(list *[2]int, yes bool) {
		if yes {
			list[1]++
		} else {
			list[0]++
		}
	}
	for range 3000 {
		l := handMade(r)
		if r.Intn(4) == 0 {
			l = milled(r, r.Intn(4)+1, r.Intn(30), r.Intn(60))
		}
		if r.Intn(2) == 0 {
			l = cloneLive(l)
			someLiveTurn(r, &l)
		}
		ok := wantLiveOk(l)
		_, picture := wantPicture(l)
		holdOk(t, "by hand", l, ok)
		holdShot(t, "by hand", l, wantDone(l), picture)
		x := someTurnOf(r, l)
		_, code := x.told(l)
		holdTurn(t, "by hand", l, x, code)
		count(&right, ok)
		if ok {
			count(&done, wantDone(l))
		}
		if wantDone(l) {
			count(&shown, picture)
		}
	}
	if slices.Min(right[:]) < 400 || slices.Min(done[:]) < 300 || slices.Min(shown[:]) < 300 {
		t.Error("few:", right, done, shown)
	}
}

// Of as many events as there can be a picture is taken, too, with all ways busy.
func TestPicturesOfAsManyEventsAsThereCanBe(t *testing.T) {
	progs := [][]impl.Ins{}
	for p := range 4 {
		progs = append(progs, []impl.Ins{{Op: impl.OpSend, N: (p + 1) % 4}, {Op: impl.OpTake, N: impl.Any}, {Op: impl.OpJump}})
	}
	l := live(wantNew(progs...))
	from := impl.Sys{}
	for round := range 200 {
		for p := range 4 {
			steps(&l, p, (p+3)%4)
		}
		if round == 100 {
			from = cloneSys(l.S)
			begins(&l, 2)
		}
		if round > 100 {
			for i := range 16 {
				marks(&l, i/4, i%4)
			}
		}
	}
	for range 100 {
		for p := range 4 {
			steps(&l, p, (p+3)%4)
		}
	}
	if events(l.S) != 800 {
		t.Fatal(events(l.S))
	}
	holdOk(t, "long", l, true)
	if !holdWholePicture(t, "long", from, l) {
		t.Errorf("no picture of %+v", l.Shot)
	}
	for p := range 4 {
		holdTurn(t, "as many as can be", l, step(p, 0), impl.RsFull)
		holdTurn(t, "as many as can be", l, begin(p), impl.ShOn)
	}
}

// Whatever is handed in is answered.
func TestPicturesOfAnything(t *testing.T) {
	odd := impl.Shot{On: true, Cut: []int{math.MinInt, math.MaxInt}, Open: flags(true, 9), Kept: [][]int{wild(), nil, many(5000, 1)}}
	shots := []impl.Shot{{}, {On: true}, odd, live(mill(1)).Shot, live(mill(2)).Shot, live(mill(4)).Shot, {Cut: many(100000, 0)}, {Cut: many(2, 0), Open: flags(true, 4), Kept: make([][]int, 4)}}
	systems := append(wrongSystems(t), talk(t), underWay(t), marked(talk(t)), impl.Sys{Ways: make([][]impl.Item, 100000)})
	for _, s := range systems {
		for _, x := range shots {
			l := impl.Live{S: s, Shot: x}
			holdOk(t, "anything", l, wantLiveOk(l))
			for _, a := range wild() {
				for _, turn := range []turn{begin(a), mark(a, 0), mark(0, a), step(a, 1), step(1, a)} {
					got, how := turn.done(l)
					if !wantLiveOk(l) && (how != impl.ShBad || !isZeroLive(got)) {
						t.Fatalf("%v of %+v is %+v, %d", turn, l, got, how)
					}
				}
			}
		}
	}
}

// flags is a list of n flags that are alike.
func flags(flag bool, n int) []bool { return slices.Repeat([]bool{flag}, n) }

// roomyLive is l with room behind all of its lists, and a function that tells whether all is as it was.
func roomyLive(l impl.Live) (impl.Live, func() bool) {
	s, sameS := roomySys(l.S)
	cut, sameCut := roomyCut(l.Shot.Cut)
	open := append(slices.Clone(l.Shot.Open), true, false, true)
	wasOpen := slices.Clone(open)
	kept, sameKept := withRoom(l.Shot.Kept, -91)
	given := impl.Live{S: s, Shot: impl.Shot{On: l.Shot.On, Cut: cut, Open: open[:len(l.Shot.Open)], Kept: kept}}
	return given, func() bool { return sameS() && sameCut() && slices.Equal(open, wasOpen) && sameKept() }
}

// closeLive lays all numbers of the Shot behind each other in one array, and the lists of the system likewise.
func closeLive(l impl.Live) (impl.Live, func() bool) {
	nums := oneArray(slices.Concat([][]int{l.Shot.Cut}, l.Shot.Kept))
	given := impl.Live{S: closeSys(l.S), Shot: impl.Shot{On: l.Shot.On, Cut: nums[0], Open: slices.Clone(l.Shot.Open), Kept: nums[1:]}}
	was := cloneLive(l)
	return given, func() bool { return sameLive(given, was) }
}

// holdLiveApart writes into each list of l, and the room behind it, one behind the other: those that come later must be as they were.
func holdLiveApart(t *testing.T, l impl.Live) {
	t.Helper()
	want := cloneLive(l)
	rest := func(from int) {
		t.Helper()
		if !sameSys(l.S, want.S) || !slices.Equal(l.Shot.Open, want.Shot.Open) || !sameLists(l.Shot.Kept[from:], want.Shot.Kept[from:]) {
			t.Fatalf("two lists share: %+v", want)
		}
	}
	overwrite(l.Shot.Cut)
	rest(0)
	for i := range l.Shot.Kept {
		overwrite(l.Shot.Kept[i])
		rest(i + 1)
	}
	wipe([][][]int{l.Shot.Kept}, nil)
	wipe([][]bool{l.Shot.Open}, true)
	if !sameSys(l.S, want.S) {
		t.Fatalf("the system shares: %+v", want)
	}
	holdApart(t, l.S)
}

// holdLiveAlone holds, of l as it is laid out, that same tells no change, and that no answer shares anything; it answers the codes of the turns.
func holdLiveAlone(t *testing.T, l, from impl.Live, same func() bool, list []turn) []int {
	t.Helper()
	codes := []int{}
	for _, x := range list {
		want, told := x.told(from)
		got, code := x.done(l)
		again, _ := x.done(l)
		if code != told || !sameLive(got, want) || !same() {
			t.Fatalf("%v of %+v is %+v, %d, or wrote into it", x, from, got, code)
		}
		holdLiveApart(t, got)
		if !same() || !sameLive(again, want) {
			t.Fatalf("what comes of %v of %+v is shared", x, from)
		}
		codes = append(codes, code)
	}
	fresh := impl.ShotNew(l.S)
	holdLiveApart(t, fresh)
	want, told := wantPicture(from)
	then, ok := impl.Picture(l)
	again, _ := impl.Picture(l)
	holdApart(t, then)
	if ok != told || !sameSys(again, want) || impl.LiveOk(l) != wantLiveOk(from) || impl.ShotDone(l) != wantDone(from) || !same() {
		t.Fatalf("what is told of %+v is shared, or wrote into it", from)
	}
	return codes
}

func TestPicturesWriteIntoNothingAndShareNothing(t *testing.T) {
	r := rand.New(rand.NewSource(78))
	lives := []impl.Live{{}, live(filled(t, 2, 0, 1, 12, 0)), live(sends(t, 12, 0)), live(worn(t, 2, 1, 200, "set 0 1")), live(crowd(t))}
	for _, l := range someLives(t) {
		if len(l.S.Progs) < 4 || r.Intn(4) == 0 {
			lives = append(lives, l)
		}
	}
	for range 60 {
		l := handMade(r)
		lives = append(lives, cloneLive(l))
		l = cloneLive(l)
		someLiveTurn(r, &l)
		lives = append(lives, l)
	}
	full := live(filled(t, 3, 1, 2, 12, 0))
	begins(&full, 0)
	lives = append(lives, full)
	seen := map[string][7]int{}
	for _, from := range lives {
		n := len(from.S.Progs)
		list := []turn{begin(-1), begin(n), mark(-1, 0), mark(0, n), step(-1, 0), step(0, -1)}
		if n <= 4 {
			list = append(list, turnsOf(n)...)
		}
		for _, given := range []func(impl.Live) (impl.Live, func() bool){roomyLive, closeLive} {
			l, same := given(from)
			for i, code := range holdLiveAlone(t, l, from, same, list) {
				codes := seen[list[i].name]
				codes[code]++
				seen[list[i].name] = codes
			}
		}
	}
	for name, list := range map[string][]int{"begin": {0, 1, 2, 3, 5}, "mark": {0, 1, 2, 4, 5}, "step": {0, 1, 2, 3, 4, 5, 6}} {
		for _, code := range list {
			if seen[name][code] < 2 {
				t.Error("few:", seen)
			}
		}
	}
}

// One list in several places of the argument comes out as several.
func TestPicturesTellApartWhatIsOne(t *testing.T) {
	for n := 1; n <= 4; n++ {
		one := append(make([]int, 0, 9), 3)
		l := live(stairs(t, n))
		l.Shot.On, l.Shot.Cut = true, make([]int, n)
		l.Shot.Kept = slices.Repeat([][]int{one}, n*n)
		marks := append(make([]impl.Item, 0, 9), impl.Item{Mark: true})
		l.S.Ways = slices.Repeat([][]impl.Item{marks}, n*n)
		kept := cloneLive(l)
		for _, x := range append(turnsOf(n), begin(-1), mark(n, 0), step(n, 0)) {
			want, code := x.told(kept)
			got, how := x.done(l)
			if how != code || !sameLive(got, want) {
				t.Fatalf("%v is %+v, %d", x, got, how)
			}
			holdLiveApart(t, got)
			if !sameLive(l, kept) || !slices.Equal(one[:9], []int{3, 0, 0, 0, 0, 0, 0, 0, 0}) || marks[:2][1] != (impl.Item{}) {
				t.Fatalf("%v wrote into it: %+v", x, l)
			}
		}
	}
	// What is taken stands behind one of them alone.
	l := live(flow(t, 2, 0, 1, 3, 1))
	one := append(make([]int, 0, 9), 7)
	l.Shot.On, l.Shot.Cut, l.Shot.Open, l.Shot.Kept = true, make([]int, 2), flags(true, 4), slices.Repeat([][]int{one}, 4)
	got := holdTurns(t, "a take", l, step(1, 0))
	if !sameLists(got.Shot.Kept, [][]int{{7}, {7, 2}, {7}, {7}}) || one[:2][1] != 0 {
		t.Errorf("%+v", got.Shot)
	}
}

// Two turns from one live do not meet, and what was told stays, whatever becomes of the argument.
func TestTurnsFromOneLiveAreApart(t *testing.T) {
	from, l := pour(t, 3)
	l = holdTurns(t, "on", l, step(0, 0), step(0, 0))
	kept := cloneLive(l)
	left, right := holdTurns(t, "one", l, step(0, 0)), holdTurns(t, "the other", l, step(1, 0))
	wantLeft, wantRight := cloneLive(left), cloneLive(right)
	then, _ := impl.Picture(l)
	wantThen := cloneSys(then)
	fresh := impl.ShotNew(from)
	wantFresh := cloneLive(fresh)
	holdLiveApart(t, left)
	if !sameLive(right, wantRight) || !sameLive(l, kept) {
		t.Error("two turns meet")
	}
	holdLiveApart(t, l)
	holdApart(t, from)
	if !sameLive(right, wantRight) || !sameSys(then, wantThen) || !sameLive(fresh, wantFresh) || sameLive(wantLeft, wantRight) {
		t.Error("what was told changed")
	}
}

// Many at once from one live tell the same, and no call remembers another.
func TestPicturesAtOnce(t *testing.T) {
	r := rand.New(rand.NewSource(79))
	lives := []impl.Live{}
	for n := 1; n <= 4; n++ {
		lives = append(lives, milled(r, n, 20, 30), milled(r, n, 20, 200))
	}
	var joined sync.WaitGroup
	wrong := make([]string, 16)
	for k := range wrong {
		joined.Add(1)
		go func() {
			defer joined.Done()
			for i := range lives {
				l := lives[(i+k)%len(lives)]
				for _, x := range turnsOf(len(l.S.Progs)) {
					want, code := x.told(l)
					if got, how := x.done(l); how != code || !sameLive(got, want) {
						wrong[k] = fmt.Sprintf("%v of %+v is %+v, %d", x, l, got, how)
					}
				}
				want, told := wantPicture(l)
				if then, ok := impl.Picture(l); ok != told || !sameSys(then, want) {
					wrong[k] = fmt.Sprintf("Picture(%+v) is %+v, %v", l, then, ok)
				}
			}
		}()
	}
	joined.Wait()
	for _, what := range wrong {
		if what != "" {
			t.Error(what)
		}
	}
}
