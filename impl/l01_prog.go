package impl

import (
	"strconv"
	"strings"
)

const (
	MaxProcs = 4
	MaxIns   = 30
	MaxNum   = 1000000000
	Any      = 9
)

const (
	OpSet = iota + 1
	OpAdd
	OpSub
	OpMul
	OpLess
	OpSend
	OpTake
	OpPrint
	OpJump
	OpZero
	OpEnd
)

const regCount = 4

const anyWord = "any"

// opWords goes by op; no op is 0, so its place is never asked for.
var opWords = [...]string{"", "set", "add", "sub", "mul", "less", "send", "take", "print", "jump", "zero", "end"}

type Ins struct {
	Op int
	R  int
	A  int
	B  int
	N  int
}

// A place has only what its kind names, so that whatever else an Ins has is lost in it.
type place interface {
	ins() Ins
}

type setPlace struct{ r, n int }

type calcPlace struct{ op, r, a, b int }

type sendPlace struct{ to, a int }

type takePlace struct{ r, from int }

type printPlace struct{ a int }

type jumpPlace struct{ to int }

type zeroPlace struct{ a, to int }

type endPlace struct{}

func (p setPlace) ins() Ins { return Ins{Op: OpSet, R: p.r, N: p.n} }

func (p calcPlace) ins() Ins { return Ins{Op: p.op, R: p.r, A: p.a, B: p.b} }

func (p sendPlace) ins() Ins { return Ins{Op: OpSend, A: p.a, N: p.to} }

func (p takePlace) ins() Ins { return Ins{Op: OpTake, R: p.r, N: p.from} }

func (p printPlace) ins() Ins { return Ins{Op: OpPrint, A: p.a} }

func (p jumpPlace) ins() Ins { return Ins{Op: OpJump, N: p.to} }

func (p zeroPlace) ins() Ins { return Ins{Op: OpZero, A: p.a, N: p.to} }

func (p endPlace) ins() Ins { return Ins{Op: OpEnd} }

// placeOf answers nil where the op is none.
func placeOf(x Ins) place {
	switch x.Op {
	case OpSet:
		return setPlace{r: x.R, n: x.N}
	case OpAdd, OpSub, OpMul, OpLess:
		return calcPlace{op: x.Op, r: x.R, a: x.A, b: x.B}
	case OpSend:
		return sendPlace{to: x.N, a: x.A}
	case OpTake:
		return takePlace{r: x.R, from: x.N}
	case OpPrint:
		return printPlace{a: x.A}
	case OpJump:
		return jumpPlace{to: x.N}
	case OpZero:
		return zeroPlace{a: x.A, to: x.N}
	case OpEnd:
		return endPlace{}
	}
	return nil
}

func isBelow(n int, limit int) bool { return n >= 0 && n < limit }

func isReg(n int) bool { return isBelow(n, regCount) }

func isNum(n int) bool { return n >= -MaxNum && n <= MaxNum }

func placeFits(p place, places int, procs int) bool {
	switch x := p.(type) {
	case setPlace:
		return isReg(x.r) && isNum(x.n)
	case calcPlace:
		return isReg(x.r) && isReg(x.a) && isReg(x.b)
	case sendPlace:
		return isReg(x.a) && isBelow(x.to, procs)
	case takePlace:
		return isReg(x.r) && (x.from == Any || isBelow(x.from, procs))
	case printPlace:
		return isReg(x.a)
	case jumpPlace:
		return isBelow(x.to, places)
	case zeroPlace:
		return isReg(x.a) && isBelow(x.to, places)
	case endPlace:
		return true
	}
	return false
}

func InsOk(x Ins, places int, procs int) bool {
	if procs < 1 || procs > MaxProcs {
		return false
	}
	p := placeOf(x)
	// The way there and back makes 0 of what the kind does not name.
	return p != nil && p.ins() == x && placeFits(p, places, procs)
}

func ProgOk(list []Ins, procs int) bool {
	if len(list) < 1 || len(list) > MaxIns {
		return false
	}
	for _, x := range list {
		if !InsOk(x, len(list), procs) {
			return false
		}
	}
	return true
}

func lineOf(op int, nums ...int) string {
	line := opWords[op]
	for _, n := range nums {
		line += " " + strconv.Itoa(n)
	}
	return line
}

func placeText(p place) string {
	switch x := p.(type) {
	case setPlace:
		return lineOf(OpSet, x.r, x.n)
	case calcPlace:
		return lineOf(x.op, x.r, x.a, x.b)
	case sendPlace:
		return lineOf(OpSend, x.to, x.a)
	case takePlace:
		if x.from == Any {
			return lineOf(OpTake, x.r) + " " + anyWord
		}
		return lineOf(OpTake, x.r, x.from)
	case printPlace:
		return lineOf(OpPrint, x.a)
	case jumpPlace:
		return lineOf(OpJump, x.to)
	case zeroPlace:
		return lineOf(OpZero, x.a, x.to)
	case endPlace:
		return lineOf(OpEnd)
	}
	return ""
}

func InsText(x Ins) string {
	if !InsOk(x, MaxIns, MaxProcs) {
		return ""
	}
	return placeText(placeOf(x))
}

// opOf answers 0 for a word that is none.
func opOf(word string) int {
	for op := OpSet; op <= OpEnd; op++ {
		if opWords[op] == word {
			return op
		}
	}
	return 0
}

func numsOf(words []string) ([]int, bool) {
	nums := make([]int, 0, len(words))
	for _, word := range words {
		if word == anyWord {
			nums = append(nums, Any)
			continue
		}
		n, err := strconv.Atoi(word)
		if err != nil {
			return nil, false
		}
		nums = append(nums, n)
	}
	return nums, true
}

// insOf answers the zero value, whose op is none, where there are too many or too few numbers for the op.
func insOf(op int, nums []int) Ins {
	switch count := len(nums); {
	case count == 2 && (op == OpSet || op == OpTake):
		return Ins{Op: op, R: nums[0], N: nums[1]}
	case count == 3 && (op == OpAdd || op == OpSub || op == OpMul || op == OpLess):
		return Ins{Op: op, R: nums[0], A: nums[1], B: nums[2]}
	case count == 2 && op == OpSend:
		return Ins{Op: op, N: nums[0], A: nums[1]}
	case count == 1 && op == OpPrint:
		return Ins{Op: op, A: nums[0]}
	case count == 1 && op == OpJump:
		return Ins{Op: op, N: nums[0]}
	case count == 2 && op == OpZero:
		return Ins{Op: op, A: nums[0], N: nums[1]}
	case count == 0 && op == OpEnd:
		return Ins{Op: op}
	}
	return Ins{}
}

func InsRead(line string) (Ins, bool) {
	words := strings.Split(line, " ")
	nums, ok := numsOf(words[1:])
	if !ok {
		return Ins{}, false
	}
	x := insOf(opOf(words[0]), nums)
	// Needless noughts, needless signs and numbers out of range are refused by writing it again; the empty text is that of no place.
	if line == "" || InsText(x) != line {
		return Ins{}, false
	}
	return x, true
}
