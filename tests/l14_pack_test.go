package tests

import (
	"bytes"
	"encoding/binary"
	"math"
	"math/rand"
	"slices"
	"sync"
	"testing"

	"loop.example/g00196/impl"
)

const wide = 2 * impl.MaxNum

// forms are those of numbers, one behind the other, in range or not.
func forms(nums ...int) []byte {
	b := []byte{}
	for _, x := range nums {
		b = binary.AppendVarint(b, int64(x))
	}
	return b
}

// longer is the form of a number with so many noughts at its end that need not be there.
func longer(x, noughts int) []byte {
	b := forms(x)
	for range noughts {
		b[len(b)-1] |= 128
		b = append(b, 0)
	}
	return b
}

// wantGet is GetNum, told once more.
func wantGet(b []byte, at int) (int, int, bool) {
	if at < 0 || at >= len(b) {
		return 0, 0, false
	}
	v, n := binary.Varint(b[at:])
	if n <= 0 || v < -wide || v > wide || !bytes.Equal(forms(int(v)), b[at:at+n]) {
		return 0, 0, false
	}
	return int(v), at + n, true
}

// packNums are the numbers that Pack puts one behind the other, whether s is right or not; it has as many of all.
func packNums(s impl.Sys) []int {
	nums := []int{len(s.Progs)}
	for p, list := range s.Progs {
		nums = append(nums, len(list))
		for _, x := range list {
			nums = append(nums, x.Op, x.R, x.A, x.B, x.N)
		}
		nums = append(nums, len(s.Hist[p]))
		for _, e := range s.Hist[p] {
			nums = append(nums, e.Kind, e.Peer, e.V)
		}
	}
	return nums
}

func isMarked(s impl.Sys) bool {
	return slices.ContainsFunc(slices.Concat(s.Ways...), func(x impl.Item) bool { return x.Mark })
}

// wantPack is Pack, told once more.
func wantPack(s impl.Sys) ([]byte, bool) {
	if !wantSysOk(s) || isMarked(s) {
		return nil, false
	}
	return forms(packNums(s)...), true
}

// numsIn are the numbers of which bytes are the forms, one behind the other.
func numsIn(b []byte) ([]int, bool) {
	nums := []int{}
	for at := 0; at < len(b); {
		x, next, ok := wantGet(b, at)
		if !ok {
			return nil, false
		}
		nums, at = append(nums, x), next
	}
	return nums, true
}

// rowsIn are so many rows of a length at the front of numbers, as many as the first of these tells, and what is behind them.
func rowsIn(nums []int, length int) (rows [][]int, rest []int, ok bool) {
	if len(nums) == 0 || nums[0] < 0 || nums[0] > len(nums) || nums[0]*length > len(nums)-1 {
		return nil, nil, false
	}
	count, rest := nums[0], nums[1:]
	for range count {
		rows, rest = append(rows, rest[:length]), rest[length:]
	}
	return rows, rest, true
}

// onWay is what a sent to b and b did not take, if b took no more than that.
func onWay(s impl.Sys, a, b int) []impl.Item {
	way := []impl.Item{}
	for _, e := range s.Hist[a] {
		if e.Kind == impl.EvSend && e.Peer == b {
			way = append(way, impl.Item{V: e.V})
		}
	}
	took := 0
	for _, e := range s.Hist[b] {
		if e.Kind == impl.EvTake && e.Peer == a {
			took++
		}
	}
	return way[min(took, len(way)):]
}

// toldBy is the system of programs and events; where they do not fit it is one that is not right.
func toldBy(progs [][]impl.Ins, hist [][]impl.Event) impl.Sys {
	s := impl.Sys{Progs: progs, Hist: hist}
	for p := range progs {
		state, _ := wantReplay(progs[p], hist[p])
		s.States = append(s.States, state)
		for b := range progs {
			s.Ways = append(s.Ways, onWay(s, p, b))
		}
	}
	return s
}

// wantUnpack is Unpack, told once more: all numbers are read first, then what they are.
func wantUnpack(b []byte) (impl.Sys, bool) {
	nums, ok := numsIn(b)
	if !ok || len(nums) == 0 {
		return impl.Sys{}, false
	}
	procs, nums := nums[0], nums[1:]
	progs, hist := [][]impl.Ins{}, [][]impl.Event{}
	for range min(procs, 9) {
		places, behind, ok := rowsIn(nums, 5)
		if !ok {
			return impl.Sys{}, false
		}
		list := []impl.Ins{}
		for _, x := range places {
			list = append(list, impl.Ins{Op: x[0], R: x[1], A: x[2], B: x[3], N: x[4]})
		}
		happened, rest, ok := rowsIn(behind, 3)
		if !ok {
			return impl.Sys{}, false
		}
		events := []impl.Event{}
		for _, x := range happened {
			events = append(events, impl.Event{Kind: x[0], Peer: x[1], V: x[2]})
		}
		progs, hist, nums = append(progs, list), append(hist, events), rest
	}
	s := toldBy(progs, hist)
	if len(nums) > 0 || !wantSysOk(s) {
		return impl.Sys{}, false
	}
	return s, true
}

// holdGet holds GetNum against what is told once more; it tells whether there is a number.
func holdGet(t *testing.T, what string, b []byte, at int) bool {
	t.Helper()
	x, next, ok := impl.GetNum(b, at)
	wantX, wantNext, want := wantGet(b, at)
	if x != wantX || next != wantNext || ok != want {
		t.Fatalf("%s: GetNum(%v, %d) is %d, %d, %v, not %d, %d, %v", what, b[:min(len(b), 60)], at, x, next, ok, wantX, wantNext, want)
	}
	return ok
}

// holdNoNum holds that no number is there.
func holdNoNum(t *testing.T, what string, b []byte, at int) {
	t.Helper()
	if x, next, ok := impl.GetNum(b, at); x != 0 || next != 0 || ok {
		t.Errorf("%s: GetNum(%v, %d) is %d, %d, %v", what, b[:min(len(b), 60)], at, x, next, ok)
	}
	holdGet(t, what, b, at)
}

// holdForm holds that a number has a form, alone and with other bytes ahead and behind.
func holdForm(t *testing.T, x int, form []byte) {
	t.Helper()
	if got := impl.PutNum(x); !bytes.Equal(got, form) {
		t.Errorf("PutNum(%d) is % x, not % x", x, got, form)
	}
	for _, ahead := range [][]byte{nil, {0}, {127}, {128}, {255}, {172, 2}, {128, 128, 128, 128, 128, 128}, make([]byte, 300)} {
		for _, behind := range [][]byte{nil, {0}, {1}, {127}, {128}, {255}, form, {128, 128, 128, 128, 128, 0}, make([]byte, 300)} {
			b := slices.Concat(ahead, form, behind)
			if got, next, ok := impl.GetNum(b, len(ahead)); got != x || next != len(ahead)+len(form) || !ok {
				t.Errorf("GetNum(% x, %d) is %d, %d, %v, not %d", b, len(ahead), got, next, ok, x)
			}
			holdGet(t, "ahead of it", b, 0)
			holdGet(t, "within it", b, len(ahead)+1)
		}
	}
	// A form that ends too early is none.
	for k := range form {
		holdNoNum(t, "cut off", form[:k], 0)
		holdNoNum(t, "cut off", slices.Concat([]byte{5, 5}, form[:k]), 2)
	}
}

func TestNumberForms(t *testing.T) {
	for _, c := range []struct {
		x    int
		form string
	}{
		{0, "\x00"}, {-1, "\x01"}, {1, "\x02"}, {-2, "\x03"}, {2, "\x04"}, {-3, "\x05"}, {75, "\x96\x01"}, {150, "\xac\x02"},
		{63, "\x7e"}, {-64, "\x7f"}, {64, "\x80\x01"}, {-65, "\x81\x01"},
		{8191, "\xfe\x7f"}, {-8192, "\xff\x7f"}, {8192, "\x80\x80\x01"}, {-8193, "\x81\x80\x01"},
		{1048575, "\xfe\xff\x7f"}, {-1048576, "\xff\xff\x7f"}, {1048576, "\x80\x80\x80\x01"}, {-1048577, "\x81\x80\x80\x01"},
		{134217727, "\xfe\xff\xff\x7f"}, {-134217728, "\xff\xff\xff\x7f"}, {134217728, "\x80\x80\x80\x80\x01"}, {-134217729, "\x81\x80\x80\x80\x01"},
		{1000000000, "\x80\xa8\xd6\xb9\x07"}, {-1000000000, "\xff\xa7\xd6\xb9\x07"}, {1000000001, "\x82\xa8\xd6\xb9\x07"},
		{2000000000, "\x80\xd0\xac\xf3\x0e"}, {-2000000000, "\xff\xcf\xac\xf3\x0e"}, {1999999999, "\xfe\xcf\xac\xf3\x0e"}, {-1999999999, "\xfd\xcf\xac\xf3\x0e"},
	} {
		holdForm(t, c.x, []byte(c.form))
	}
}

// Numbers that are near to those that have a form, and numbers of which the double comes round to one of them.
func TestNumbersWithoutAForm(t *testing.T) {
	list := []int{wide + 1, -wide - 1, wide + 2, -wide - 2, math.MaxInt, math.MinInt, math.MinInt + 1, math.MaxInt - 1,
		math.MaxInt32, math.MinInt32, math.MaxInt32 + 1, math.MaxUint32, math.MaxUint32 + 1, -math.MaxUint32, 1 << 34, 1<<34 - 1, -1 << 34}
	for shift := 32; shift < 64; shift++ {
		for near := -70; near <= 70; near++ {
			list = append(list, 1<<shift+near, -1<<shift+near, math.MaxInt-near, math.MinInt+near)
		}
	}
	for _, x := range list {
		if got := impl.PutNum(x); (len(got) == 0) != (x < -wide || x > wide) {
			t.Errorf("PutNum(%d) is % x", x, got)
		}
		if x < -wide || x > wide {
			holdNoNum(t, "beyond", forms(x), 0)
			holdNoNum(t, "beyond", slices.Concat([]byte{9}, forms(x, 1)), 1)
		}
	}
}

func TestEachNumberIsReadAsItWasPut(t *testing.T) {
	r := rand.New(rand.NewSource(101))
	list := []int{}
	for x := -20000; x <= 20000; x++ {
		list = append(list, x)
	}
	for _, edge := range []int{1 << 20, 1 << 27, impl.MaxNum, wide} {
		for near := -300; near <= 300; near++ {
			list = append(list, edge+near, -edge+near)
		}
	}
	for range 20000 {
		list = append(list, r.Intn(2*wide+1)-wide, r.Intn(1<<(r.Intn(31)+1)), -r.Intn(1<<(r.Intn(31)+1)))
	}
	for _, x := range list {
		form := impl.PutNum(x)
		if x < -wide || x > wide {
			if len(form) != 0 {
				t.Fatalf("PutNum(%d) is % x", x, form)
			}
			continue
		}
		got, next, ok := impl.GetNum(form, 0)
		if !bytes.Equal(form, forms(x)) || got != x || next != len(form) || !ok {
			t.Fatalf("PutNum(%d) is % x, and GetNum of it %d, %d, %v", x, form, got, next, ok)
		}
	}
}

func TestPlacesWhereNoNumberIs(t *testing.T) {
	places := append(wild(), -2, math.MinInt+1, math.MaxInt-1, math.MaxInt-4, math.MaxInt-5, 1<<40)
	for _, at := range places {
		holdNoNum(t, "nil", nil, at)
		holdNoNum(t, "no bytes", []byte{}, at)
		holdNoNum(t, "no bytes, but room", make([]byte, 0, 40), at)
	}
	for n := 1; n <= 7; n++ {
		b := make([]byte, n, n+20)
		for _, at := range places {
			if holdGet(t, "noughts", b, at) != (at >= 0 && at < n) {
				t.Errorf("at %d of %d", at, n)
			}
		}
		holdNoNum(t, "ahead", b, -1)
		holdNoNum(t, "at the end", b, n)
		holdNoNum(t, "behind the end", b, n+1)
	}
	// What stands in the room behind the bytes is none of them.
	room := forms(150, 7)
	holdNoNum(t, "it ends in the room", room[:1], 0)
	holdNoNum(t, "it is in the room", room[:2], 2)
}

func TestFormsThatAreNotTheShortest(t *testing.T) {
	for _, x := range []int{0, -1, 1, 63, -64, 64, -65, 8191, 8192, -8193, 1048576, 134217727, -134217728, 134217728, -134217729, impl.MaxNum, -impl.MaxNum, wide, -wide} {
		for noughts := 1; noughts <= 12; noughts++ {
			b := longer(x, noughts)
			holdNoNum(t, "noughts at the end", b, 0)
			holdNoNum(t, "noughts at the end", slices.Concat([]byte{128, 1}, b, []byte{0}), 2)
		}
	}
	for _, b := range []string{"\x80\x00", "\x81\x00", "\xff\x00", "\x80\x80\x00", "\x80\x80\x80\x80\x00", "\x80\x80\x80\x80\x80\x00", "\xff\xff\xff\xff\xff\x00"} {
		holdNoNum(t, "noughts at the end", []byte(b), 0)
	}
}

func TestFormsOfNumbersThatAreTooGreat(t *testing.T) {
	for _, b := range []string{
		"\x81\xd0\xac\xf3\x0e", "\x82\xd0\xac\xf3\x0e", "\x80\xd1\xac\xf3\x0e", "\x80\xd0\xac\xf3\x0f", "\xff\xff\xff\xff\x0f", "\xff\xff\xff\xff\x7f",
		"\x80\x80\x80\x80\x10", "\x80\x80\x80\x80\x80\x01", "\x80\xd0\xac\xf3\x8e\x01", "\xff\xff\xff\xff\xff\xff\xff\xff\x7f", "\xff\xff\xff\xff\xff\xff\xff\xff\xff\x01",
		// Of these the bits beyond the sixty-fourth would be lost.
		"\x80\x80\x80\x80\x80\x80\x80\x80\x80\x02", "\x85\x80\x80\x80\x80\x80\x80\x80\x80\x02", "\x85\x80\x80\x80\x80\x80\x80\x80\x80\x80\x01", "\x85\x80\x80\x80\x80\x80\x80\x80\x80\x80\x80\x80\x80\x80\x80\x80\x80\x80\x80\x01",
	} {
		holdNoNum(t, "too great", []byte(b), 0)
		holdNoNum(t, "too great", []byte("\x00\x7f"+b+"\x00"), 2)
	}
}

func TestVeryManyBytesThatGoOn(t *testing.T) {
	for _, x := range []byte{128, 129, 172, 255} {
		for _, n := range []int{1, 2, 4, 5, 6, 9, 10, 11, 100, 3000000} {
			b := bytes.Repeat([]byte{x}, n)
			for _, at := range []int{0, n / 2, n - 1, n} {
				holdNoNum(t, "it goes on", b, at)
			}
			for _, last := range []byte{0, 1, 127} {
				holdGet(t, "it ends at last", append(slices.Clone(b), last), 0)
			}
		}
	}
}

// Of few bytes each choice is gone through.
func TestEachChoiceOfFewBytes(t *testing.T) {
	there := 0
	for x := range 1 << 16 {
		b := []byte{byte(x), byte(x >> 8)}
		for at := range 3 {
			if holdGet(t, "two bytes", b, at) {
				there++
			}
		}
	}
	choice := []byte{0, 1, 14, 127, 128, 129, 243, 255}
	for x := range 1 << 18 {
		b := []byte{}
		for range 6 {
			b, x = append(b, choice[x%8]), x/8
		}
		if holdGet(t, "six bytes", b, 0) {
			there++
		}
	}
	if there < 150000 {
		t.Error("few:", there)
	}
}

// holdPack holds Pack against what is told once more, and that Unpack tells that system again; it answers the bytes.
func holdPack(t *testing.T, what string, s impl.Sys) []byte {
	t.Helper()
	b, ok := impl.Pack(s)
	want, told := wantPack(s)
	if ok != told || !bytes.Equal(b, want) {
		t.Fatalf("%s: Pack(%+v) is %v, %v, not %v, %v", what, s, b, ok, want, told)
	}
	if !ok {
		return nil
	}
	again, ok := impl.Unpack(b)
	if !ok || !sameSys(again, s) || !impl.SysOk(again) {
		t.Fatalf("%s: Unpack(Pack(%+v)) is %+v, %v", what, s, again, ok)
	}
	return b
}

// holdPacked holds that of s there are bytes.
func holdPacked(t *testing.T, what string, s impl.Sys) []byte {
	t.Helper()
	b := holdPack(t, what, s)
	if len(b) == 0 {
		t.Fatalf("%s: Pack(%+v) is nothing", what, s)
	}
	return b
}

// holdNoPack holds that of s there are none.
func holdNoPack(t *testing.T, what string, s impl.Sys) {
	t.Helper()
	if b, ok := impl.Pack(s); ok || len(b) != 0 {
		t.Errorf("%s: Pack(%+v) is %v, %v", what, s, b, ok)
	}
	holdPack(t, what, s)
}

// holdUnpack holds Unpack against what is told once more, and that Pack of what it tells is those bytes; it tells whether there is a system.
func holdUnpack(t *testing.T, what string, b []byte) bool {
	t.Helper()
	s, ok := impl.Unpack(b)
	want, told := wantUnpack(b)
	if ok != told || !sameSys(s, want) {
		t.Fatalf("%s: Unpack(%v) is %+v, %v, not %+v, %v", what, b[:min(len(b), 300)], s, ok, want, told)
	}
	if !ok {
		return false
	}
	if again, packed := impl.Pack(s); !packed || !bytes.Equal(again, b) {
		t.Fatalf("%s: Pack(Unpack(%v)) is %v, %v", what, b, again, packed)
	}
	return true
}

// holdNoSys holds that bytes are those of no system.
func holdNoSys(t *testing.T, what string, b []byte) {
	t.Helper()
	if s, ok := impl.Unpack(b); ok || !isZeroSys(s) {
		t.Fatalf("%s: Unpack(%v) is %+v, %v", what, b[:min(len(b), 300)], s, ok)
	}
	holdUnpack(t, what, b)
}

// packable are systems that are right and have no marks: new ones, ones that have run, that ended, that went wrong, that send to themselves, that meet each limit.
func packable(t *testing.T) []impl.Sys {
	list := meetings(t)
	for n := 1; n <= 4; n++ {
		list = append(list, wantNew(slices.Repeat([][]impl.Ins{program(t, "take 0 any", "send 0 0", "end")}, n)...),
			wantNew(slices.Repeat([][]impl.Ins{ends(30, 29)}, n)...), toOneself(t, n, n-1), ring(n, 3, 1))
	}
	wrong := [][]impl.Ins{program(t, "take 0 2"), program(t, "set 0 40000", "mul 0 0 0", "end"), program(t, "send 0 0"), program(t, "end")}
	far := [][]impl.Ins{program(t, "set 0 1000000000", "send 1 0", "print 0", "end"), program(t, "set 1 -1000000000", "take 0 0", "send 1 1", "print 1", "end")}
	return append(list, played(t, wrong, 2, 3, 1, 1, 0), played(t, far, 0, 0, 0, 0, 1, 1, 1, 1, 1), worn(t, 2, 1, 200, "send 0 1"), crowded())
}

func TestPackSpelledOut(t *testing.T) {
	one := wantNew(program(t, "end"))
	if b := holdPacked(t, "one that ends", one); string(b) != "\x02\x02\x16\x00\x00\x00\x00\x00" {
		t.Errorf("% x", b)
	}
	// Each process has its places and then its events; the next one comes behind both.
	s := played(t, [][]impl.Ins{program(t, "set 2 -70", "send 1 2", "end"), program(t, "take 3 any", "print 3", "add 1 2 3", "end")}, 0, 0, 1, 1)
	want := slices.Concat([]byte{4},
		[]byte{6, 2, 4, 0, 0, 0x8b, 1, 12, 0, 4, 0, 2, 22, 0, 0, 0, 0}, []byte{4, 2, 0, 0, 4, 2, 0x8b, 1},
		[]byte{8, 14, 6, 0, 0, 18, 16, 0, 6, 0, 0, 4, 2, 4, 6, 0, 22, 0, 0, 0, 0}, []byte{4, 6, 0, 0x8b, 1, 8, 0, 0x8b, 1})
	if b := holdPacked(t, "two", s); !bytes.Equal(b, want) {
		t.Errorf("% x, not % x", b, want)
	}
	// What is on a way stands nowhere: it was sent, and is not taken.
	under := played(t, [][]impl.Ins{program(t, "send 0 0", "send 0 0", "take 1 0", "end")}, 0, 0, 0)
	want = []byte{2, 8, 12, 0, 0, 0, 0, 12, 0, 0, 0, 0, 14, 2, 0, 0, 0, 22, 0, 0, 0, 0, 6, 4, 0, 0, 4, 0, 0, 6, 0, 0}
	if b := holdPacked(t, "to itself", under); !bytes.Equal(b, want) {
		t.Errorf("% x, not % x", b, want)
	}
	if got, ok := impl.Unpack(want); !ok || !slices.Equal(impl.WayOf(got, 0, 0), []impl.Item{{}}) || !sameState(got.States[0], fromTo(3, 0, 0, 0, 0)) {
		t.Errorf("%+v, %v", got, ok)
	}
}

// What is read from its bytes is as it was, every field, and no two systems have the same bytes.
func TestASystemIsReadFromItsBytesAsItWas(t *testing.T) {
	whose := map[string]impl.Sys{}
	for _, s := range packable(t) {
		b := holdPacked(t, "right", s)
		if !holdUnpack(t, "right", b) {
			t.Fatalf("Unpack(%v) is not done", b)
		}
		if other, ok := whose[string(b)]; ok && !sameSys(other, s) {
			t.Fatalf("%+v and %+v have the same bytes", other, s)
		}
		whose[string(b)] = s
		read, _ := impl.Unpack(b)
		for p := range s.Progs {
			if state, ok := impl.Replay(read.Progs[p], read.Hist[p]); !ok || !sameState(state, s.States[p]) {
				t.Errorf("the state of %d is %+v in %+v", p, state, s)
			}
			for q := range s.Progs {
				if way := impl.WayOf(read, p, q); !slices.Equal(way, impl.WayOf(s, p, q)) {
					t.Errorf("the way from %d to %d is %v in %+v", p, q, way, s)
				}
			}
		}
	}
}

// It has the bytes of each of its moments, and goes on from there as it would have.
func TestWhatIsReadGoesOn(t *testing.T) {
	for _, progs := range [][][]impl.Ins{relay(t), pair(t), wantNew(talk(t).Progs...).Progs, ring(3, 2, 1).Progs} {
		s := wantNew(progs...)
		for range 40 {
			for p := range s.Progs {
				b := holdPacked(t, "on its way", s)
				read, _ := impl.Unpack(b)
				for peer := range s.Progs {
					after, code := impl.Step(s, p, peer)
					again, same := impl.Step(read, p, peer)
					if code != same || !sameSys(after, again) {
						t.Fatalf("Step(%+v, %d, %d) is %+v, %d, not %+v, %d", read, p, peer, again, same, after, code)
					}
				}
				play(&s, p, 0)
			}
		}
		if !impl.Halted(s) {
			t.Errorf("it goes on still: %+v", s)
		}
		for _, cut := range cutsWithin(impl.Full(s)) {
			if then, ok := impl.At(s, cut); ok && len(cut) < 3 {
				holdPacked(t, "at a cut", then)
			}
		}
	}
}

func TestNoBytesOfWhatIsNotRight(t *testing.T) {
	for _, s := range append(wrongSystems(t), wrongInOne(t)...) {
		if wantSysOk(s) {
			t.Fatalf("it is right: %+v", s)
		}
		holdNoPack(t, "not right", s)
	}
	for _, right := range packable(t) {
		last := len(right.Progs) - 1
		for _, change := range []func(s *impl.Sys){
			func(s *impl.Sys) { s.States[last].Regs[3]++ },
			func(s *impl.Sys) { s.States[0].At++ },
			func(s *impl.Sys) { s.States[0].Out = append(s.States[0].Out, 0) },
			func(s *impl.Sys) { s.Ways[0] = append(s.Ways[0], impl.Item{}) },
			func(s *impl.Sys) { s.Ways[len(s.Ways)-1] = append(s.Ways[len(s.Ways)-1], impl.Item{V: 1}) },
			func(s *impl.Sys) { s.Progs[last] = append(s.Progs[last], impl.Ins{}) },
			func(s *impl.Sys) { s.Hist[0] = append(s.Hist[0], impl.Event{}) },
			func(s *impl.Sys) { s.Hist = append(s.Hist, nil) },
		} {
			holdNoPack(t, "one thing is wrong", but(right, change))
		}
	}
}

// A mark, on whichever way and wherever on it, has no form.
func TestNoBytesOfMarks(t *testing.T) {
	for _, s := range packable(t) {
		for i, way := range s.Ways {
			for at := 0; at <= len(way) && len(way) < 12; at++ {
				one := but(s, func(s *impl.Sys) { s.Ways[i] = slices.Insert(s.Ways[i], at, impl.Item{Mark: true}) })
				holdSys(t, "a mark", one, true)
				holdNoPack(t, "a mark", one)
			}
		}
		if all := marked(s); isMarked(all) {
			holdNoPack(t, "marks", all)
			holdPacked(t, "without marks", noMarks(all))
		}
	}
	holdNoPack(t, "marks alone", sends(t, 0, 12))
	holdNoPack(t, "marks behind numbers", sends(t, 5, 1))
	holdPacked(t, "numbers alone", sends(t, 12, 0))
}

func TestBytesOfNoSystem(t *testing.T) {
	holdNoSys(t, "nil", nil)
	holdNoSys(t, "no bytes", []byte{})
	holdNoSys(t, "no bytes, but room", make([]byte, 0, 40))
	end := []int{1, impl.OpEnd, 0, 0, 0, 0, 0}
	if !holdUnpack(t, "one that ends", forms(append([]int{1}, end...)...)) {
		t.Error("one that ends is none")
	}
	for _, procs := range append(wild(), -wide, wide, -2, -4, 6, 7) {
		if procs < -wide || procs > wide {
			continue
		}
		for there := range 10 {
			b := forms(append([]int{procs}, slices.Repeat(end, there)...)...)
			if holdUnpack(t, "so many that end", b) != (procs == there && there >= 1 && there <= 4) {
				t.Errorf("%d told, and %d there", procs, there)
			}
		}
	}
	for _, x := range []byte{0, 1, 2, 4, 8, 22, 127, 128, 255} {
		for _, n := range []int{1, 2, 7, 8, 9, 40, 2000000} {
			holdNoSys(t, "all alike", bytes.Repeat([]byte{x}, n))
		}
	}
}

func TestBytesTooFewOrTooMany(t *testing.T) {
	for _, s := range packable(t) {
		b := holdPacked(t, "right", s)
		step := max(1, len(b)/300)
		for k := 0; k < len(b); k += step {
			// What is cut off stands in the room behind it still, or does not.
			holdNoSys(t, "cut off", b[:k])
			holdNoSys(t, "cut off", slices.Clip(b[:k]))
		}
		holdNoSys(t, "less its last byte", b[:len(b)-1])
		holdNoSys(t, "less its first byte", b[1:])
		for x := range 256 {
			if len(b) < 300 || x%64 == 0 {
				holdNoSys(t, "one byte more behind", append(slices.Clone(b), byte(x)))
			}
		}
		holdNoSys(t, "one nought ahead", append([]byte{0}, b...))
		holdNoSys(t, "twice", slices.Concat(b, b))
	}
}

func TestBytesWithAFormThatIsNotTheShortest(t *testing.T) {
	for _, s := range packable(t) {
		nums := packNums(s)
		step := max(1, len(nums)/150)
		for k := 0; k < len(nums); k += step {
			for _, noughts := range []int{1, 2, 5, 9} {
				holdNoSys(t, "noughts at the end", slices.Concat(forms(nums[:k]...), longer(nums[k], noughts), forms(nums[k+1:]...)))
			}
		}
		last := len(nums) - 1
		holdNoSys(t, "noughts at the end of the last", slices.Concat(forms(nums[:last]...), longer(nums[last], 1)))
	}
}

// countsAt are the places of the numbers that tell how many come.
func countsAt(s impl.Sys) []int {
	places, at := []int{0}, 1
	for p := range s.Progs {
		places = append(places, at)
		at += 1 + 5*len(s.Progs[p])
		places = append(places, at)
		at += 1 + 3*len(s.Hist[p])
	}
	return places
}

func TestCountsThatAreNotSo(t *testing.T) {
	for _, s := range packable(t) {
		nums := packNums(s)
		for _, k := range countsAt(s) {
			for _, count := range []int{-wide, -impl.MaxNum, -201, -31, -5, -2, -1, 0, 1, 2, 3, 4, 5, 29, 30, 31, 32, 199, 200, 201, len(nums), impl.MaxNum, impl.MaxNum + 1, wide} {
				other := slices.Clone(nums)
				other[k] = count
				if b := forms(other...); count == nums[k] {
					holdUnpack(t, "the count that is so", b)
				} else {
					holdNoSys(t, "another count", b)
				}
			}
			// A count beyond all numbers that have a form.
			for _, count := range []int{wide + 1, -wide - 1, math.MaxInt, math.MinInt} {
				holdNoSys(t, "a count beyond", slices.Concat(forms(nums[:k]...), forms(count), forms(nums[k+1:]...)))
			}
		}
	}
}

// What is told and there, but passes a limit, is none.
func TestLimitsOfWhatIsRead(t *testing.T) {
	for _, n := range []int{1, 2, 3, 4, 5, 6} {
		s := wantNew(slices.Repeat([][]impl.Ins{program(t, "end")}, n)...)
		if holdUnpack(t, "processes", forms(packNums(s)...)) != (n <= 4) {
			t.Errorf("%d processes", n)
		}
	}
	for _, n := range []int{1, 29, 30, 31, 60} {
		for p := range 3 {
			progs := slices.Repeat([][]impl.Ins{program(t, "end")}, 3)
			progs[p] = ends(n, n-1)
			if holdUnpack(t, "places", forms(packNums(wantNew(progs...))...)) != (n <= 30) {
				t.Errorf("%d places", n)
			}
		}
	}
	holdNoSys(t, "no places", forms(1, 0, 0))
	holdNoSys(t, "no places of the second", forms(2, 1, impl.OpEnd, 0, 0, 0, 0, 0, 0, 0))
	for _, n := range []int{0, 1, 199, 200, 201, 400} {
		for p := range 2 {
			s := wantNew(program(t, "jump 0"), program(t, "jump 0"))
			s.Hist[p] = slices.Repeat([]impl.Event{local()}, n)
			if holdUnpack(t, "events", forms(packNums(s)...)) != (n <= 200) {
				t.Errorf("%d events", n)
			}
		}
	}
	for n := range 16 {
		if holdUnpack(t, "on a way", forms(packNums(sends(t, n, 0))...)) != (n <= 12) {
			t.Errorf("%d on a way", n)
		}
	}
	for _, v := range []int{-wide, -impl.MaxNum - 1, -impl.MaxNum, 0, impl.MaxNum, impl.MaxNum + 1, wide} {
		s := wantNew([]impl.Ins{{Op: impl.OpSet, N: v}, {Op: impl.OpSend}, {Op: impl.OpEnd}})
		s.Hist[0] = []impl.Event{local(), {Kind: impl.EvSend, V: v}}
		if holdUnpack(t, "a number", forms(packNums(s)...)) != (v >= -impl.MaxNum && v <= impl.MaxNum) {
			t.Errorf("%d", v)
		}
	}
}

// Events that the programs do not come to, or that no order has.
func TestEventsThatAreNoneOfThePrograms(t *testing.T) {
	for _, s := range []impl.Sys{relayed(t, 10), underWay(t), talk(t), takesFrom(t, 2, 0, 1, 1)} {
		for p := range s.Progs {
			for i := range s.Hist[p] {
				holdNoSys(t, "no event", forms(packNums(but(s, func(s *impl.Sys) { s.Hist[p][i] = impl.Event{} }))...))
				holdNoSys(t, "another kind", forms(packNums(but(s, func(s *impl.Sys) { s.Hist[p][i].Kind++ }))...))
				holdNoSys(t, "another peer", forms(packNums(but(s, func(s *impl.Sys) { s.Hist[p][i].Peer = -1 }))...))
				holdNoSys(t, "a peer that there is not", forms(packNums(but(s, func(s *impl.Sys) { s.Hist[p][i].Peer = len(s.Progs) }))...))
				holdNoSys(t, "another number", forms(packNums(but(s, func(s *impl.Sys) { s.Hist[p][i].V++ }))...))
			}
			for _, e := range someEvents() {
				holdUnpack(t, "one more", forms(packNums(but(s, func(s *impl.Sys) { s.Hist[p] = append(s.Hist[p], e) }))...))
			}
		}
	}
	progs := [][]impl.Ins{program(t, "take 0 1", "send 1 0", "end"), program(t, "take 0 0", "send 0 0", "end")}
	circle := [][]impl.Event{{{Kind: impl.EvTake, Peer: 1}, {Kind: impl.EvSend, Peer: 1}}, {{Kind: impl.EvTake, Peer: 0}, {Kind: impl.EvSend, Peer: 0}}}
	holdNoSys(t, "a circle", forms(packNums(toldBy(progs, circle))...))
	holdNoSys(t, "taken, and never sent", forms(packNums(toldBy(progs, [][]impl.Event{circle[0][:1], nil}))...))
	alone := [][]impl.Ins{program(t, "take 0 0", "send 0 0", "end")}
	holdNoSys(t, "taken ahead of its send", forms(packNums(toldBy(alone, [][]impl.Event{{{Kind: impl.EvTake}, {Kind: impl.EvSend}}}))...))
	// A process that one of MaxProcs could name, but that is none of these.
	for n := 1; n <= 4; n++ {
		lists := slices.Repeat([][]impl.Ins{program(t, "end")}, n)
		for to := range 4 {
			lists[0] = []impl.Ins{{Op: impl.OpEnd}, {Op: impl.OpSend, N: to}}
			if holdUnpack(t, "to whom", forms(packNums(wantNew(lists...))...)) != (to < n) {
				t.Errorf("to %d of %d", to, n)
			}
		}
		lists[0] = program(t, "take 0 any", "end")
		for peer := -1; peer <= 9; peer++ {
			s := wantNew(lists...)
			s.Hist[0] = []impl.Event{{Kind: impl.EvTake, Peer: peer}}
			holdNoSys(t, "taken from whom", forms(packNums(s)...))
		}
	}
}

// All programs first and all events behind them is another order than that of the document.
func TestTheOrderOfWhatIsPacked(t *testing.T) {
	s := relayed(t, 10)
	nums := []int{2}
	for _, list := range s.Progs {
		nums = append(nums, packNums(wantNew(list))[1:]...)
		nums = nums[:len(nums)-1]
	}
	for _, events := range s.Hist {
		nums = append(nums, len(events))
		for _, e := range events {
			nums = append(nums, e.Kind, e.Peer, e.V)
		}
	}
	holdNoSys(t, "all programs first", forms(nums...))
	turned := but(s, func(s *impl.Sys) { slices.Reverse(s.Progs) })
	holdNoSys(t, "the programs the other way round", forms(packNums(turned)...))
}

// Each byte of a few systems is each other byte once; where that is a system, too, it is packed as these bytes.
func TestEachByteAnother(t *testing.T) {
	there, none := 0, 0
	list := []impl.Sys{wantNew(program(t, "end")), relayed(t, 3), relayed(t, 10), underWay(t), sends(t, 2, 0), stairs(t, 2), ring(1, 1, 1)}
	for _, s := range list {
		b := holdPacked(t, "right", s)
		for k := range b {
			for x := range 256 {
				other := slices.Clone(b)
				other[k] = byte(x)
				if holdUnpack(t, "one byte another", other) {
					there++
				} else {
					none++
				}
			}
			holdUnpack(t, "one byte less", slices.Delete(slices.Clone(b), k, k+1))
			holdUnpack(t, "one byte twice", slices.Insert(slices.Clone(b), k, b[k]))
		}
	}
	if there < 1000 || none < 50000 {
		t.Error("few:", there, none)
	}
}

// someSlips changes a few bytes, or a few of the numbers that they are the forms of.
func someSlips(r *rand.Rand, b []byte) []byte {
	nums, ok := numsIn(b)
	if !ok {
		return b
	}
	for range r.Intn(2) + 1 {
		k := r.Intn(len(nums))
		switch r.Intn(4) {
		case 0:
			nums[k] += r.Intn(3) - 1
		case 1:
			nums[k] = nums[r.Intn(len(nums))]
		case 2:
			nums[k] = wild()[r.Intn(len(wild()))]
		case 3:
			nums = slices.Insert(nums, k, r.Intn(5))
		}
	}
	b = forms(nums...)
	if r.Intn(4) == 0 {
		b[r.Intn(len(b))] ^= 1 << r.Intn(8)
	}
	return b
}

func TestBytesByChance(t *testing.T) {
	r := rand.New(rand.NewSource(102))
	seen := map[string]int{}
	for range 2500 {
		s := someSys(r, r.Intn(60))
		switch r.Intn(4) {
		case 0:
			s = someChat(r, r.Intn(40))
		case 1:
			s = someShow(r, r.Intn(40))
		}
		if r.Intn(5) == 0 {
			someTurn(r, &s)
		}
		b := holdPack(t, "by chance", s)
		if len(b) == 0 {
			if isMarked(s) {
				seen["marked"]++
			} else {
				seen["not right"]++
			}
			b = forms(packNums(s)...)
		} else {
			seen["packed"]++
		}
		if holdUnpack(t, "by chance", b) {
			seen["read"]++
		} else {
			seen["not read"]++
		}
		for range 4 {
			if holdUnpack(t, "a slip", someSlips(r, b)) {
				seen["a slip, read"]++
			} else {
				seen["a slip, not read"]++
			}
		}
		at := r.Intn(len(b)+4) - 2
		holdGet(t, "by chance", b, at)
		some := make([]byte, r.Intn(30))
		r.Read(some)
		holdUnpack(t, "any bytes", some)
		holdGet(t, "any bytes", some, r.Intn(30))
	}
	for what, least := range map[string]int{"marked": 300, "not right": 50, "packed": 1000, "read": 1000, "not read": 50, "a slip, read": 500, "a slip, not read": 3000} {
		if seen[what] < least {
			t.Error("few:", what, seen)
		}
	}
}

// What a system with marks has beside them is a system, too: that of its programs and events.
func TestWhatHappenedIsAllThereIs(t *testing.T) {
	for _, s := range packable(t) {
		b := holdPacked(t, "right", s)
		read, ok := impl.Unpack(forms(packNums(marked(s))...))
		if !ok || !sameSys(read, s) || !impl.Forth(read, s) || !impl.Forth(s, read) {
			t.Fatalf("it is %+v, %v, not %+v", read, ok, s)
		}
		// Taken back it has fewer events, and other bytes.
		for p := range s.Progs {
			if then, code := impl.BackOne(s, p); code == impl.BkDone && bytes.Equal(holdPacked(t, "taken back", then), b) {
				t.Errorf("taken back it has the same bytes: %+v", s)
			}
		}
	}
}

// roomyBytes is bytes with room behind them, and a function that tells whether all is as it was.
func roomyBytes(b []byte) ([]byte, func() bool) {
	room := append(slices.Clone(b), 0, 1, 0x81, 0xff, 2)
	kept := slices.Clone(room)
	return room[:len(b)], func() bool { return bytes.Equal(room, kept) }
}

func TestBytesAreNotWrittenIntoAndNotShared(t *testing.T) {
	list := append(append(stepSystems(t), packable(t)...), marked(talk(t)))
	done := 0
	for _, from := range list {
		want, told := wantPack(from)
		for i, given := range layings(from) {
			s, same := given()
			b, ok := impl.Pack(s)
			again, _ := impl.Pack(s)
			if ok != told || !bytes.Equal(b, want) || !same() {
				t.Fatalf("%d: Pack(%+v) is %v, %v, or wrote into it", i, from, b, ok)
			}
			wipe([][]byte{b}, 0xaa)
			if later, _ := impl.Pack(s); !bytes.Equal(again, want) || !bytes.Equal(later, want) || !same() {
				t.Fatalf("%d: what comes of Pack(%+v) is shared", i, from)
			}
		}
		if !told {
			continue
		}
		done++
		for _, choice := range [][]byte{want, want[:len(want)-1], append(slices.Clone(want), 0), longer(3, 1), nil} {
			b, same := roomyBytes(choice)
			wantSys, wantOk := wantUnpack(choice)
			s, ok := impl.Unpack(b)
			again, _ := impl.Unpack(b)
			if ok != wantOk || !sameSys(s, wantSys) || !same() {
				t.Fatalf("Unpack(%v) is %+v, %v, or wrote into it", choice, s, ok)
			}
			holdApart(t, s)
			if !same() || !sameSys(again, wantSys) {
				t.Fatalf("what comes of Unpack(%v) is shared", choice)
			}
			wipe([][]byte{b}, 0xaa)
			if !sameSys(again, wantSys) {
				t.Fatalf("Unpack(%v) keeps the bytes", choice)
			}
		}
	}
	if done < 100 {
		t.Error("few:", done)
	}
}

func TestNumbersAreNotWrittenIntoAndNotShared(t *testing.T) {
	for _, x := range append(wild(), -64, 63, 64, -65, 8192, wide, -wide, wide+1) {
		form, again := impl.PutNum(x), impl.PutNum(x)
		want := slices.Clone(again)
		wipe([][]byte{form}, 0xaa)
		if later := impl.PutNum(x); !bytes.Equal(again, want) || !bytes.Equal(later, want) {
			t.Errorf("PutNum(%d) is % x, then % x", x, want, later)
		}
		for _, choice := range [][]byte{want, forms(5, x, 6), longer(x, 1), bytes.Repeat([]byte{128}, 20), nil} {
			b, same := roomyBytes(choice)
			for at := -1; at <= len(b)+1; at++ {
				holdGet(t, "with room", b, at)
			}
			if !same() {
				t.Errorf("GetNum wrote into % x", choice)
			}
		}
	}
}

// Programs and events that are one list in several places of the argument come out as several.
func TestUnpackTellsApartWhatIsOne(t *testing.T) {
	for n := 1; n <= 4; n++ {
		list, hist := program(t, "set 0 1", "print 0", "end"), []impl.Event{local(), {Kind: impl.EvPrint, V: 1}}
		regs := []int{1, 0, 0, 0}
		state := impl.State{At: 2, Regs: regs, Out: regs[:1]}
		s := impl.Sys{Progs: slices.Repeat([][]impl.Ins{list}, n), States: slices.Repeat([]impl.State{state}, n), Ways: make([][]impl.Item, n*n), Hist: slices.Repeat([][]impl.Event{hist}, n)}
		b := holdPacked(t, "one list", s)
		read, _ := impl.Unpack(b)
		holdApart(t, read)
		if again, ok := impl.Unpack(b); !ok || !sameSys(again, s) {
			t.Errorf("Unpack(%v) is %+v, %v", b, again, ok)
		}
	}
}

// Many at once tell the same, and no call remembers another.
func TestManyPackAtOnce(t *testing.T) {
	list := packable(t)
	var joined sync.WaitGroup
	for k := range 16 {
		joined.Go(func() {
			for i := range list {
				s := list[(i+k)%len(list)]
				b, ok := impl.Pack(s)
				read, fine := impl.Unpack(b)
				if !ok || !fine || !sameSys(read, s) {
					t.Errorf("Unpack(Pack(%+v)) is %+v, %v, %v", s, read, ok, fine)
				}
				if _, wrong := impl.Unpack(b[:len(b)-1]); wrong {
					t.Errorf("cut off it is read: %v", b)
				}
			}
		})
	}
	joined.Wait()
}
