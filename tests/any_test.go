package tests

import (
	"fmt"
	"go/ast"
	"go/parser"
	"go/token"
	"math"
	"math/rand"
	"path/filepath"
	"reflect"
	"slices"
	"strings"
	"testing"

	"loop.example/g00196/impl"
)

// functions are those of all chapters, by name.
func functions() map[string]any {
	return map[string]any{
		"InsOk": impl.InsOk, "ProgOk": impl.ProgOk, "InsText": impl.InsText, "InsRead": impl.InsRead,
		"StateOk": impl.StateOk, "StateNew": impl.StateNew, "Next": impl.Next, "Do": impl.Do,
		"Replay": impl.Replay, "Count": impl.Count, "Nth": impl.Nth, "Values": impl.Values,
		"SysOk": impl.SysOk, "SysNew": impl.SysNew, "WayOf": impl.WayOf, "Numbers": impl.Numbers,
		"Step": impl.Step, "Ready": impl.Ready, "Halted": impl.Halted,
		"Run": impl.Run, "Fair": impl.Fair, "Printed": impl.Printed,
		"Sender": impl.Sender, "Clock": impl.Clock, "Hangs": impl.Hangs, "Side": impl.Side,
		"CutOk": impl.CutOk, "Whole": impl.Whole, "Close": impl.Close, "Full": impl.Full, "At": impl.At,
		"Back": impl.Back, "Undone": impl.Undone, "BackOne": impl.BackOne, "Forth": impl.Forth,
		"KeepAll": impl.KeepAll, "KeptOk": impl.KeptOk, "Restore": impl.Restore, "Again": impl.Again,
		"ShotNew": impl.ShotNew, "LiveOk": impl.LiveOk, "Begin": impl.Begin, "Mark": impl.Mark, "LiveStep": impl.LiveStep, "ShotDone": impl.ShotDone, "Picture": impl.Picture,
		"StopOk": impl.StopOk, "Holds": impl.Holds, "Until": impl.Until, "Last": impl.Last,
		"Row": impl.Row, "RowOk": impl.RowOk, "Redo": impl.Redo, "Swap": impl.Swap,
		"PutNum": impl.PutNum, "GetNum": impl.GetNum, "Pack": impl.Pack, "Unpack": impl.Unpack,
		"Load": impl.Load, "Line": impl.Line, "Session": impl.Session,
	}
}

// names are those of the functions, sorted.
func names() []string {
	list := []string{}
	for name := range functions() {
		list = append(list, name)
	}
	slices.Sort(list)
	return list
}

// A function that is added is missed here until it is in the table.
func TestAllFunctionsAreInTheTable(t *testing.T) {
	files, err := filepath.Glob("../impl/*.go")
	if err != nil || len(files) != 15 {
		t.Fatal(files, err)
	}
	found := []string{}
	for _, name := range files {
		file, err := parser.ParseFile(token.NewFileSet(), name, nil, 0)
		if err != nil {
			t.Fatal(err)
		}
		for _, decl := range file.Decls {
			if f, ok := decl.(*ast.FuncDecl); ok && f.Recv == nil && f.Name.IsExported() {
				found = append(found, f.Name.Name)
			}
		}
	}
	slices.Sort(found)
	if !slices.Equal(found, names()) {
		t.Errorf("%v, not %v", found, names())
	}
}

// A pool has arguments of each type that a function asks for, right and wrong ones.
type pool map[reflect.Type][]reflect.Value

func (p pool) add(list ...any) {
	for _, x := range list {
		v := reflect.ValueOf(x)
		p[v.Type()] = append(p[v.Type()], v)
	}
}

// systemsOfAnyKind are right and wrong, met and passed, and made of whatever.
func systemsOfAnyKind(t *testing.T) []impl.Sys {
	r := rand.New(rand.NewSource(120))
	list := append(wrongSystems(t), wantNew(pair(t)...), underWay(t), talk(t), marked(talk(t)), stairs(t, 4), sends(t, 12, 0), sends(t, 4, 3), worn(t, 2, 1, 200, "set 0 1"), crowd(t),
		flow(t, 2, 0, 1, 20, 10), toOneself(t, 2, 1), ring(4, 30, 2), gate(t, []int{2, 0, 1}, 16))
	for range 20 {
		s := someSys(r, r.Intn(60))
		list = append(list, cloneSys(s))
		someTurn(r, &s)
		list = append(list, s)
	}
	odd := impl.State{At: math.MinInt, Regs: many(4, math.MaxInt), Out: many(70, math.MinInt), Code: math.MaxInt}
	event := impl.Event{Kind: math.MaxInt, Peer: math.MinInt, V: math.MinInt}
	ins := impl.Ins{Op: math.MinInt, R: math.MaxInt, A: math.MinInt, B: math.MaxInt, N: math.MinInt}
	for n := range 6 {
		list = append(list, impl.Sys{Progs: slices.Repeat([][]impl.Ins{{ins, {Op: impl.OpEnd}}}, n), States: slices.Repeat([]impl.State{odd}, n), Ways: slices.Repeat([][]impl.Item{{{Mark: true, V: math.MinInt}}}, n*n), Hist: slices.Repeat([][]impl.Event{{event}}, n)})
		for _, kind := range []int{impl.EvLocal, impl.EvSend, impl.EvTake, impl.EvPrint} {
			for _, peer := range []int{-1, n, impl.Any, math.MaxInt} {
				s := wantNew(slices.Repeat([][]impl.Ins{ends(3, 0)}, n)...)
				for p := range n {
					s.Hist[p] = []impl.Event{{Kind: kind, Peer: peer, V: p}}
				}
				list = append(list, s)
			}
		}
	}
	return append(list, impl.Sys{Progs: make([][]impl.Ins, 20000)}, impl.Sys{Ways: make([][]impl.Item, 20000), Hist: make([][]impl.Event, 3)},
		impl.Sys{Progs: make([][]impl.Ins, 2), States: make([]impl.State, 2), Ways: make([][]impl.Item, 4), Hist: make([][]impl.Event, 2)})
}

// livesOfAnyKind are at each stage of a picture, right and wrong.
func livesOfAnyKind(t *testing.T) []impl.Live {
	r := rand.New(rand.NewSource(121))
	list := []impl.Live{}
	for i, l := range someLives(t) {
		if len(l.S.Progs) < 3 || i%7 == 0 {
			list = append(list, l)
		}
	}
	for range 30 {
		l := handMade(r)
		list = append(list, cloneLive(l))
		someLiveTurn(r, &l)
		list = append(list, l)
	}
	odd := impl.Shot{On: true, Cut: []int{math.MinInt, math.MaxInt}, Open: flags(true, 9), Kept: [][]int{wild(), nil, many(5000, 1)}}
	for _, s := range systemsOfAnyKind(t) {
		list = append(list, impl.Live{S: s}, impl.Live{S: s, Shot: odd})
		if len(s.Progs) <= 5 {
			list = append(list, live(s))
		}
	}
	return list
}

// poolOf has arguments that fit each other now and then: what is of a system stands beside it.
func poolOf(t *testing.T) pool {
	r := rand.New(rand.NewSource(122))
	p := pool{}
	for _, n := range append(wild(), 0, 0, 1, 1, 2, 3, 7, 60, 61, 120, 200) {
		p.add(n)
		x := impl.Ins{Op: n, R: 1, A: 2, B: 3, N: -n}
		p.add(x, impl.Ins{Op: impl.OpJump, N: n}, impl.Event{Kind: n}, impl.Event{Kind: impl.EvTake, Peer: n, V: n}, impl.Stop{P: n, Kind: 1}, impl.Stop{Kind: n, V: n}, impl.Stop{Kind: impl.StopTake, V: n})
		p.add(impl.State{At: n, Regs: many(4, 0)}, impl.State{Regs: many(4, n)}, impl.State{Regs: many(4, 0), Code: n}, impl.State{Regs: many(4, 0), Out: many(min(max(n, 0), 61), n)})
		p.add([]int{n}, []int{0, n}, []int{n, n, n}, many(min(max(n, 0), 20000), 1), []byte{byte(n)}, []impl.Item{{V: n}, {Mark: true, V: n}})
		p.add([]impl.Pick{{P: n, Peer: n}}, []impl.Pick{{}, {Peer: n}, {P: 1, Peer: n}}, []impl.Who{{P: n}, {I: n}}, []impl.Kept{{}, {N: n}}, []impl.Kept{{S: impl.StateNew()}, {N: n, S: impl.State{Regs: many(4, n)}}})
	}
	p.add(impl.State{}, []int(nil), []byte(nil), []impl.Item(nil), []impl.Pick(nil), []impl.Who(nil), []impl.Kept(nil), []impl.Ins(nil), []impl.Event(nil), [][]impl.Ins(nil))
	p.add(make([]impl.Pick, 200), make([]impl.Pick, 201), make([]impl.Pick, 20000), make([]impl.Who, 20000), make([]impl.Kept, 20000), make([]impl.Item, 20000), make([]impl.Event, 20000), make([]impl.Ins, 20000), make([]byte, 20000), make([][]impl.Ins, 20000))
	p.add(slices.Repeat([]impl.Event{local()}, 200), slices.Repeat([]impl.Event{local()}, 201), mixed())
	for _, list := range append(badPrograms(), longPrograms(t)...) {
		p.add(list, [][]impl.Ins{list}, [][]impl.Ins{list, list}, slices.Repeat([][]impl.Ins{list}, 5), textOf([][]impl.Ins{list}))
	}
	for _, list := range longPrograms(t) {
		events := runBy(r, list, r.Intn(30))
		state, _ := wantReplay(list, events)
		p.add(state, events, wantKept(list, events), keptAt(list, events, 0, len(events)))
	}
	p.addOfSystems(t, r)
	for _, line := range slices.Concat(oddLines(), deskLines(), deskLines()) {
		p.add(line)
	}
	for range 60 {
		p.add(someLinesOf(r), pairText+someLinesOf(r), strings.Join(deskLines()[:r.Intn(20)], "\n"))
	}
	for _, c := range rightLines() {
		p.add(c.line, c.ins)
	}
	p.add(strings.Repeat("full\n", 120), strings.Repeat("full\n", 121), strings.Repeat(";", 12000), strings.Repeat(";", 12001), strings.Repeat("\n", 20000), strings.Repeat("\xff", 20000))
	return p
}

func (p pool) addOfSystems(t *testing.T, r *rand.Rand) {
	for _, s := range systemsOfAnyKind(t) {
		p.add(s)
		if len(s.Progs) > 5 {
			continue
		}
		p.add(s.Progs, counts(s), forms(packNumsOf(s)...))
		for i := range s.Hist {
			p.add(s.Hist[i])
		}
		for i := range s.States {
			p.add(s.States[i])
		}
		for i := range s.Ways {
			if len(s.Ways[i]) > 0 {
				p.add(s.Ways[i])
			}
		}
		if wantSysOk(s) {
			p.add(someCut(r, s), tellingOf(s).rowOf(), blocks(s), somePicks(r, len(s.Progs), r.Intn(30)), textOf(s.Progs))
		}
	}
	for _, l := range livesOfAnyKind(t) {
		p.add(l)
	}
}

// packNumsOf is packNums of what has as many of all; of others only how many there are.
func packNumsOf(s impl.Sys) []int {
	if len(s.Hist) != len(s.Progs) {
		return []int{len(s.Progs)}
	}
	return packNums(s)
}

// spread writes down all that a value has, and what stands in the room behind each of its lists.
func spread(v reflect.Value, into *strings.Builder) {
	switch v.Kind() {
	case reflect.Slice:
		fmt.Fprint(into, "[", v.Len(), ":")
		if v.Cap() == 0 {
			return
		}
		for all, i := v.Slice(0, v.Cap()), 0; i < all.Len(); i++ {
			spread(all.Index(i), into)
		}
		into.WriteString("]")
	case reflect.Struct:
		for i := range v.NumField() {
			spread(v.Field(i), into)
		}
		into.WriteString(".")
	case reflect.Int:
		fmt.Fprint(into, v.Int(), " ")
	default:
		fmt.Fprint(into, v, " ")
	}
}

func spreadAll(list []reflect.Value) string {
	var into strings.Builder
	for _, v := range list {
		spread(v, &into)
	}
	return into.String()
}

// roomFor is a copy of a value that shares nothing with it, with room behind each list.
func roomFor(v reflect.Value) reflect.Value {
	out := reflect.New(v.Type()).Elem()
	switch v.Kind() {
	case reflect.Slice:
		if v.IsNil() {
			return out
		}
		room := 2
		if v.Len() > 1000 {
			room = 0
		}
		out = reflect.MakeSlice(v.Type(), v.Len()+room, v.Len()+room)
		for i := range v.Len() {
			out.Index(i).Set(roomFor(v.Index(i)))
		}
		return out.Slice(0, v.Len())
	case reflect.Struct:
		for i := range v.NumField() {
			out.Field(i).Set(roomFor(v.Field(i)))
		}
		return out
	}
	out.Set(v)
	return out
}

// An extent is the memory of one list, with the room behind it.
type extent struct{ from, to uintptr }

// extentsOf are those of all lists of a value.
func extentsOf(v reflect.Value, list []extent) []extent {
	switch v.Kind() {
	case reflect.Slice:
		if size := uintptr(v.Cap()) * v.Type().Elem().Size(); size > 0 {
			list = append(list, extent{v.Pointer(), v.Pointer() + size})
		}
		if kind := v.Type().Elem().Kind(); kind != reflect.Slice && kind != reflect.Struct {
			return list
		}
		for i := range v.Len() {
			list = extentsOf(v.Index(i), list)
		}
	case reflect.Struct:
		for i := range v.NumField() {
			list = extentsOf(v.Field(i), list)
		}
	}
	return list
}

// meet tells whether two lists of memory have something in common: they are laid in order, and each is held against the one behind it.
func meet(list []extent) bool {
	slices.SortFunc(list, func(a, b extent) int {
		if a.from < b.from {
			return -1
		}
		return 1
	})
	for i := 1; i < len(list); i++ {
		if list[i].from < list[i-1].to {
			return true
		}
	}
	return false
}

// called calls a function, and tells whether it panicked.
func called(f reflect.Value, args []reflect.Value) (answers []reflect.Value, problem any) {
	defer func() { problem = recover() }()
	return f.Call(args), nil
}

// short is an argument as it is told of in a test.
func short(args []reflect.Value) string {
	text := ""
	for _, v := range args {
		text += fmt.Sprintf("%.400s; ", fmt.Sprintf("%+v", v))
	}
	return text
}

// holdAnything holds of one call that it answers, twice the same, writes into nothing and shares nothing.
func holdAnything(t *testing.T, name string, f reflect.Value, args []reflect.Value) []reflect.Value {
	t.Helper()
	before := spreadAll(args)
	answers, problem := called(f, args)
	if problem != nil {
		t.Fatalf("%s of %s panics: %v", name, short(args), problem)
	}
	if spreadAll(args) != before {
		t.Fatalf("%s of %s wrote into it", name, short(args))
	}
	lists := []extent{}
	for _, v := range slices.Concat(args, answers) {
		lists = extentsOf(v, lists)
	}
	if meet(lists) {
		t.Fatalf("%s of %s shares", name, short(args))
	}
	again, _ := called(f, args)
	if told, other := spreadLists(answers), spreadLists(again); told != other {
		t.Fatalf("%s of %s is %.400s, and then %.400s", name, short(args), told, other)
	}
	return answers
}

// spreadLists writes down the answers without the room behind their lists, which is nobody's business.
func spreadLists(answers []reflect.Value) string {
	text := ""
	for _, v := range answers {
		text += fmt.Sprintf("%+v; ", v)
	}
	return text
}

// Every function answers at any arguments, twice the same, writes into none, and answers new memory.
func TestEveryFunctionAnswersAtAnyArguments(t *testing.T) {
	r := rand.New(rand.NewSource(123))
	all := poolOf(t)
	for _, name := range names() {
		f := reflect.ValueOf(functions()[name])
		for range 250 {
			args := []reflect.Value{}
			for i := range f.Type().NumIn() {
				list := all[f.Type().In(i)]
				if len(list) < 20 {
					t.Fatalf("%s asks for %v", name, f.Type().In(i))
				}
				args = append(args, roomFor(list[r.Intn(len(list))]))
			}
			holdAnything(t, name, f, args)
		}
	}
}

// Arguments by chance seldom fit each other. Of those that do the same holds, and not one answer alone comes of them.
func TestEveryFunctionOfASystemThatIsRight(t *testing.T) {
	r := rand.New(rand.NewSource(124))
	told := map[string]map[string]bool{}
	hold := func(name string, list ...any) {
		args := []reflect.Value{}
		for _, x := range list {
			args = append(args, roomFor(reflect.ValueOf(x)))
		}
		if told[name] == nil {
			told[name] = map[string]bool{}
		}
		told[name][spreadLists(holdAnything(t, name, reflect.ValueOf(functions()[name]), args))] = true
	}
	for range 60 {
		l := milled(r, r.Intn(4)+1, r.Intn(90), r.Intn(60))
		s, n := l.S, len(l.S.Progs)
		p, q, stop := r.Intn(n), r.Intn(n), impl.Stop{P: r.Intn(n), Kind: r.Intn(3) + 1, V: r.Intn(8)}
		list, events := s.Progs[p], s.Hist[p]
		i, j := r.Intn(len(events)+1), r.Intn(len(s.Hist[q])+1)
		row := tellingOf(s).someRow(r, r.Intn(2) == 0)
		for _, name := range []string{"SysOk", "Halted", "Full", "ShotNew", "Row", "Pack"} {
			hold(name, s)
		}
		for _, name := range []string{"LiveOk", "ShotDone", "Picture"} {
			hold(name, l)
		}
		for _, name := range []string{"CutOk", "Whole", "Close", "At"} {
			hold(name, s, someCut(r, s))
			hold(name, s, tellingOf(s).closed(someCut(r, s)))
		}
		for _, name := range []string{"Back", "Undone", "Sender", "Clock"} {
			hold(name, s, p, i)
		}
		for _, name := range []string{"Hangs", "Side"} {
			hold(name, s, p, i, q, j)
		}
		for _, name := range []string{"BackOne", "Ready", "Fair"} {
			hold(name, s, p)
		}
		for _, name := range []string{"Holds", "StopOk", "Last"} {
			hold(name, s, stop)
		}
		// A mill prints nothing.
		hold("Printed", someSys(r, 60), 0)
		hold("Step", s, p, q)
		hold("Forth", s, s)
		hold("LiveStep", l, p, q)
		hold("Mark", l, p, q)
		hold("Begin", live(noMarks(s)), p)
		hold("WayOf", s, p, q)
		hold("Numbers", s.Ways[p*n+q])
		hold("SysNew", s.Progs)
		hold("ProgOk", list, n)
		hold("Run", s, somePicks(r, n, 30))
		hold("Until", s, somePicks(r, n, 30), stop)
		hold("RowOk", s, row)
		hold("Redo", s, row)
		hold("Swap", s, row, r.Intn(len(row)+1))
		hold("Replay", list, events)
		hold("KeepAll", list, events)
		keep := wantKept(list, events)
		hold("KeptOk", list, events, keep)
		hold("Restore", list, events, keep, i)
		hold("Again", list, events, keep, i)
		hold("StateOk", list, s.States[p])
		hold("Next", list, s.States[p])
		hold("Do", list, s.States[p], wantNext(list, s.States[p]))
		hold("Values", events, impl.EvSend, q)
		hold("Count", events, impl.EvTake, q)
		hold("Nth", events, impl.EvTake, q, i)
		hold("Unpack", forms(packNums(noMarks(s))...))
		hold("GetNum", forms(i, j), 0)
		hold("Load", textOf(s.Progs))
		hold("Line", l, someLineOf(r, l))
		hold("Session", textOf(s.Progs), strings.Join(deskLines(), "\n"))
	}
	// These tell the same of all that is right, and these are not asked here.
	rest := []string{"SysOk", "LiveOk", "CutOk", "ProgOk", "StateOk", "StopOk", "KeptOk", "RowOk", "Forth", "InsOk", "InsText", "InsRead", "StateNew", "PutNum"}
	for _, name := range names() {
		if len(told[name]) < 2 && !slices.Contains(rest, name) {
			t.Errorf("%s tells %v", name, told[name])
		}
	}
}
