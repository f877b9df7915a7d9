package pvm_test

import (
	"bytes"
	"math"
	"math/big"
	"math/rand"
	"slices"
	"testing"

	"nacelle/api"
	"nacelle/code"
	"nacelle/fault"
	"nacelle/pvm"
)

// The least and the greatest word.
const (
	least    = math.MinInt64
	greatest = math.MaxInt64
)

// needs says for each Op what its bytes A, B and C need: to be 0, to be a register (r), to be a service (s), or nothing (*).
var needs = []string{
	api.OpHalt:  "000",
	api.OpSet:   "r**",
	api.OpMove:  "rr0",
	api.OpAdd:   "rrr",
	api.OpSub:   "rrr",
	api.OpMul:   "rrr",
	api.OpDiv:   "rrr",
	api.OpMod:   "rrr",
	api.OpAnd:   "rrr",
	api.OpOr:    "rrr",
	api.OpXor:   "rrr",
	api.OpLess:  "rrr",
	api.OpSame:  "rrr",
	api.OpLoad:  "rr*",
	api.OpStore: "rr*",
	api.OpJump:  "0**",
	api.OpZero:  "r**",
	api.OpCall:  "s00",
}

// edges are bytes near which requirements change.
var edges = []byte{0, 1, 6, 7, 8, 9, 15, 16, 17, 127, 128, 254, 255}

// words are words near which something changes.
var words = []int64{least, least + 1, least + 255, -1 << 32, -257, -256, -255, -254, -65, -64, -8, -7, -3, -2, -1, 0, 1, 2, 3, 7, 8, 63, 64, 65, 254, 255, 256, 1 << 31, 1 << 32, 3037000500, greatest - 255, greatest - 254, greatest - 1, greatest}

// ints are numbers of steps, words and places that are far from all that there is.
var ints = []int{math.MinInt, math.MinInt + 1, math.MinInt32, -65536, -256, -2, -1}

// halt, jump and none are instructions that many tests use; none has an Op that is none.
var (
	halt = of(api.OpHalt, 0, 0, 0)
	jump = of(api.OpJump, 0, 0, 0)
	none = of(api.OpCall+1, 0, 0, 0)
)

// nothing is the event of most steps.
var nothing = api.Event{}

// of returns an instruction.
func of(op, a, b, c byte) api.Instr {
	return api.Instr{Op: op, A: a, B: b, C: c}
}

// to returns an instruction with this Op and this A whose number is n.
func to(op, a byte, n int) api.Instr {
	return of(op, a, byte(n), byte(n>>8))
}

// list returns a list of instructions.
func list(l ...api.Instr) []api.Instr {
	return l
}

// halts returns a list of so many Halts.
func halts(n int) []api.Instr {
	return make([]api.Instr, n)
}

// with returns a copy of l that has i at that index.
func with(l []api.Instr, at int, i api.Instr) []api.Instr {
	l = slices.Clone(l)
	l[at] = i
	return l
}

// machine returns a machine at place 0 with these registers from the first one on, and words 100, 101 and so on.
func machine(n int, registers ...int64) pvm.Machine {
	m := pvm.Machine{Memory: make([]int64, n)}
	copy(m.R[:], registers)
	for at := range m.Memory {
		m.Memory[at] = int64(100 + at)
	}
	return m
}

// clone returns a machine with a Memory of its own.
func clone(m pvm.Machine) pvm.Machine {
	m.Memory = slices.Clone(m.Memory)
	return m
}

// placed returns the machine at another place.
func placed(m pvm.Machine, place int) pvm.Machine {
	m = clone(m)
	m.Place = place
	return m
}

// set returns the machine with another word in a register.
func set(m pvm.Machine, register int, w int64) pvm.Machine {
	m = clone(m)
	m.R[register] = w
	return m
}

// store returns the machine with another word in its Memory.
func store(m pvm.Machine, index int, w int64) pvm.Machine {
	m = clone(m)
	m.Memory[index] = w
	return m
}

// ended returns the machine in another state, with a trap.
func ended(m pvm.Machine, state int, trap api.Errno) pvm.Machine {
	m = clone(m)
	m.State, m.Trap = state, trap
	return m
}

// same reports whether the machines are the same; an empty Memory is none.
func same(m, other pvm.Machine) bool {
	return m.Place == other.Place && m.R == other.R && slices.Equal(m.Memory, other.Memory) && m.State == other.State && m.Trap == other.Trap
}

// meets reports whether the byte is what need says.
func meets(need, b byte) bool {
	return need == '*' || need == '0' && b == 0 || need == 'r' && b < 8 || need == 's' && b < 16
}

// formed reports whether the instruction is well formed, as the table of chapter 7 says.
func formed(i api.Instr) bool {
	if int(i.Op) >= len(needs) {
		return false
	}
	need := needs[i.Op]
	return meets(need[0], i.A) && meets(need[1], i.B) && meets(need[2], i.C)
}

// wrap returns the word to which an unbounded integer wraps around.
func wrap(n *big.Int) int64 {
	low := new(big.Int).And(n, new(big.Int).SetUint64(math.MaxUint64))
	return int64(low.Uint64())
}

// result returns what an Op of the table from Add to Same makes of two words, in unbounded integers.
func result(op byte, x, y int64) int64 {
	b, c, n := big.NewInt(x), big.NewInt(y), new(big.Int)
	switch op {
	case api.OpAdd:
		n.Add(b, c)
	case api.OpSub:
		n.Sub(b, c)
	case api.OpMul:
		n.Mul(b, c)
	case api.OpDiv:
		n.Quo(b, c)
	case api.OpMod:
		n.Rem(b, c)
	case api.OpAnd:
		n.And(b, c)
	case api.OpOr:
		n.Or(b, c)
	case api.OpXor:
		n.Xor(b, c)
	case api.OpLess:
		if b.Cmp(c) < 0 {
			n.SetInt64(1)
		}
	case api.OpSame:
		if b.Cmp(c) == 0 {
			n.SetInt64(1)
		}
	}
	return wrap(n)
}

// word returns the index of the word of a Load or a Store, and whether there is one.
func word(i api.Instr, m pvm.Machine) (int, bool) {
	sum := new(big.Int).Add(big.NewInt(m.R[i.B]), big.NewInt(int64(i.C)))
	if sum.Sign() < 0 || sum.Cmp(big.NewInt(int64(len(m.Memory)))) >= 0 {
		return 0, false
	}
	return int(sum.Int64()), true
}

// trapOf returns the trap of the machine's next instruction as the chapter words it; OK, if it has none.
func trapOf(l []api.Instr, m pvm.Machine) api.Errno {
	if m.Place < 0 || m.Place > len(l)-1 {
		return api.ErrPlace
	}
	i := l[m.Place]
	if !formed(i) {
		return api.ErrIll
	}
	if (i.Op == api.OpDiv || i.Op == api.OpMod) && m.R[i.C] == 0 {
		return api.ErrZero
	}
	if i.Op == api.OpLoad || i.Op == api.OpStore {
		if _, ok := word(i, m); !ok {
			return api.ErrMemory
		}
	}
	return api.OK
}

// model returns what Step returns, as the chapter's table words it.
func model(l []api.Instr, m pvm.Machine) (pvm.Machine, api.Event) {
	m = clone(m)
	if m.State != 0 {
		return m, nothing
	}
	if trap := trapOf(l, m); trap != api.OK {
		return ended(m, 2, trap), api.Event{Kind: 3, N: int(trap)}
	}
	i := l[m.Place]
	number := int(i.B) + 256*int(i.C)
	switch i.Op {
	case api.OpHalt:
		return ended(m, 1, m.Trap), api.Event{Kind: 2}
	case api.OpJump:
		return placed(m, number), nothing
	case api.OpZero:
		if m.R[i.A] == 0 {
			return placed(m, number), nothing
		}
		return placed(m, m.Place+1), nothing
	}
	m.Place++
	switch i.Op {
	case api.OpSet:
		if number >= 0x8000 {
			number -= 0x10000
		}
		return set(m, int(i.A), int64(number)), nothing
	case api.OpMove:
		return set(m, int(i.A), m.R[i.B]), nothing
	case api.OpLoad:
		index, _ := word(i, m)
		return set(m, int(i.A), m.Memory[index]), nothing
	case api.OpStore:
		index, _ := word(i, m)
		return store(m, index, m.R[i.A]), nothing
	case api.OpCall:
		return m, api.Event{Kind: 1, N: int(i.A)}
	}
	return set(m, int(i.A), result(i.Op, m.R[i.B], m.R[i.C])), nothing
}

// modelRun returns what Run returns, step by step.
func modelRun(l []api.Instr, m pvm.Machine, n int) (pvm.Machine, api.Event, int) {
	e, steps := nothing, 0
	for ; steps < n && m.State == 0 && e.Kind == 0; steps++ {
		m, e = model(l, m)
	}
	return m, e, steps
}

// pick returns one of the words, or another one.
func pick(r *rand.Rand) int64 {
	if r.Intn(8) == 0 {
		return int64(r.Uint64()) >> r.Intn(64)
	}
	return words[r.Intn(len(words))]
}

// anyMachine returns a machine that Runs at a place from -1 to n.
func anyMachine(r *rand.Rand, n int) pvm.Machine {
	m := pvm.Machine{Place: r.Intn(n+2) - 1, Memory: make([]int64, r.Intn(67))}
	if r.Intn(10) == 0 {
		m.Memory = nil
	}
	for at := range m.R {
		m.R[at] = pick(r)
	}
	for at := range m.Memory {
		m.Memory[at] = pick(r)
	}
	return m
}

// anyList returns a list of so many instructions, of any kind, of which many are well formed.
func anyList(r *rand.Rand, n int) []api.Instr {
	l := make([]api.Instr, n)
	for at := range l {
		l[at] = of(byte(r.Intn(19)), byte(r.Intn(9)), byte(r.Intn(9)), byte(r.Intn(9)))
		switch l[at].Op {
		case api.OpHalt, api.OpCall:
			l[at].B, l[at].C = 0, byte(r.Intn(2))
		case api.OpMove:
			l[at].C = byte(r.Intn(2))
		case api.OpJump, api.OpZero:
			l[at] = to(l[at].Op, byte(r.Intn(2)), r.Intn(n+2))
		case api.OpSet, api.OpLoad, api.OpStore:
			l[at].C = edges[r.Intn(len(edges))]
		}
		if r.Intn(40) == 0 {
			l[at].Op = byte(r.Intn(256))
		}
	}
	return l
}

// anyProgram returns a program of so many instructions.
func anyProgram(r *rand.Rand, n int) []api.Instr {
	l := make([]api.Instr, n)
	for at := range l {
		for {
			i := of(byte(r.Intn(18)), byte(r.Intn(8)), byte(r.Intn(8)), byte(r.Intn(8)))
			switch i.Op {
			case api.OpHalt, api.OpCall:
				i = of(i.Op, i.A, 0, 0)
			case api.OpJump, api.OpZero:
				i = to(i.Op, i.A, r.Intn(n))
			case api.OpSet, api.OpMove:
				i.C = 0
			}
			l[at] = i
			last := at == n-1 && i.Op != api.OpHalt && i.Op != api.OpJump
			if formed(i) && !last {
				break
			}
		}
	}
	return l
}

// wantStep fails the test, unless Step returns this machine and this event.
func wantStep(t *testing.T, l []api.Instr, m, want pvm.Machine, event api.Event) {
	t.Helper()
	before := clone(m)
	got, e := pvm.Step(l, m)
	if !same(got, want) || e != event {
		t.Errorf("Step(.., %+v) = %+v, %v, not %+v, %v", m, got, e, want, event)
	}
	if !same(m, before) {
		t.Errorf("Step changed %+v to %+v", before, m)
	}
}

// wantTrap fails the test, unless a step is this trap, and everything else stays.
func wantTrap(t *testing.T, l []api.Instr, m pvm.Machine, trap api.Errno) {
	t.Helper()
	wantStep(t, l, m, ended(m, api.Trapped, trap), api.Event{Kind: api.EventTrap, N: int(trap)})
}

// wantOne fails the test, unless the instruction makes this machine of m, one place further and with no event, at the first, at a middle and at the last index.
func wantOne(t *testing.T, i api.Instr, m, want pvm.Machine) {
	t.Helper()
	for _, place := range []int{0, 2, 4} {
		wantStep(t, with(halts(5), place, i), placed(m, place), placed(want, place+1), nothing)
	}
}

// wantOneTrap fails the test, unless the instruction is this trap at the first, at a middle and at the last index.
func wantOneTrap(t *testing.T, i api.Instr, m pvm.Machine, trap api.Errno) {
	t.Helper()
	for _, place := range []int{0, 2, 4} {
		wantTrap(t, with(halts(5), place, i), placed(m, place), trap)
	}
}

// wantRun fails the test, unless Run returns this machine, this event and so many steps.
func wantRun(t *testing.T, l []api.Instr, m pvm.Machine, n int, want pvm.Machine, event api.Event, steps int) {
	t.Helper()
	before := clone(m)
	got, e, count := pvm.Run(l, m, n)
	if !same(got, want) || e != event || count != steps {
		t.Errorf("Run(.., %+v, %d) = %+v, %v, %d, not %+v, %v, %d", m, n, got, e, count, want, event, steps)
	}
	if !same(m, before) {
		t.Errorf("Run changed %+v to %+v", before, m)
	}
}

// P8.1: New and Step.

func TestNew(t *testing.T) {
	for _, c := range []struct{ words, want int }{
		{math.MinInt, 0},
		{math.MinInt + 1, 0},
		{math.MinInt32, 0},
		{-65, 0},
		{-64, 0},
		{-1, 0},
		{0, 0},
		{1, 1},
		{2, 2},
		{63, 63},
		{64, 64},
		{65, 64},
		{66, 64},
		{128, 64},
		{256, 64},
		{math.MaxInt32, 64},
		{math.MaxInt - 1, 64},
		{math.MaxInt, 64},
	} {
		m := pvm.New(c.words)
		if want := (pvm.Machine{Memory: make([]int64, c.want)}); !same(m, want) {
			t.Errorf("New(%d) = %+v", c.words, m)
		}
		if !pvm.May(m) {
			t.Errorf("New(%d) is not valid", c.words)
		}
	}
	if api.MaxMemory != 64 || api.Registers != 8 || api.Runs != 0 {
		t.Errorf("%d words, %d registers, Runs %d", api.MaxMemory, api.Registers, api.Runs)
	}
}

func TestStepHalt(t *testing.T) {
	m := machine(3, 1, 2, 3)
	for _, place := range []int{0, 2, 4} {
		l := slices.Repeat(list(of(api.OpSet, 0, 9, 0)), 5)
		wantStep(t, with(l, place, halt), placed(m, place), ended(placed(m, place), api.Halted, 0), api.Event{Kind: api.EventHalt})
	}
	wantStep(t, list(halt), m, ended(m, 1, 0), api.Event{Kind: 2, N: 0})
}

func TestStepSet(t *testing.T) {
	for _, c := range []struct {
		b, c byte
		want int64
	}{
		{0, 0, 0},
		{5, 0, 5},
		{255, 0, 255},
		{0, 1, 256},
		{2, 1, 258},
		{254, 127, 32766},
		{255, 127, 32767},
		{0, 128, -32768},
		{1, 128, -32767},
		{0, 255, -256},
		{254, 255, -2},
		{255, 255, -1},
	} {
		for register := range 8 {
			m := machine(2, 11, 12, 13, 14, 15, 16, 17, 18)
			wantOne(t, of(api.OpSet, byte(register), c.b, c.c), m, set(m, register, c.want))
		}
	}
}

func TestStepMove(t *testing.T) {
	for a := range 8 {
		for b := range 8 {
			m := machine(2, 11, -12, least, greatest, 0, 16, -1, 18)
			wantOne(t, of(api.OpMove, byte(a), byte(b), 0), m, set(m, a, m.R[b]))
		}
	}
}

// TestStepRegisters has each combination of registers: which ones are read, and which one becomes the result.
func TestStepRegisters(t *testing.T) {
	m := machine(2, 2, 3, 5, 7, 11, 13, 17, 19)
	for a := range byte(8) {
		for b := range byte(8) {
			for c := range byte(8) {
				wantOne(t, of(api.OpAdd, a, b, c), m, set(m, int(a), m.R[b]+m.R[c]))
				wantOne(t, of(api.OpSub, a, b, c), m, set(m, int(a), m.R[b]-m.R[c]))
				wantOne(t, of(api.OpMul, a, b, c), m, set(m, int(a), m.R[b]*m.R[c]))
				wantOne(t, of(api.OpDiv, a, b, c), m, set(m, int(a), m.R[b]/m.R[c]))
				wantOne(t, of(api.OpMod, a, b, c), m, set(m, int(a), m.R[b]%m.R[c]))
				wantOne(t, of(api.OpAnd, a, b, c), m, set(m, int(a), m.R[b]&m.R[c]))
				wantOne(t, of(api.OpOr, a, b, c), m, set(m, int(a), m.R[b]|m.R[c]))
				wantOne(t, of(api.OpXor, a, b, c), m, set(m, int(a), m.R[b]^m.R[c]))
			}
		}
	}
}

// TestStepResults has results that are written out, with the operands in two registers, and in one.
func TestStepResults(t *testing.T) {
	for _, c := range []struct {
		op         byte
		b, c, want int64
	}{
		{api.OpAdd, 2, 3, 5},
		{api.OpAdd, -2, 3, 1},
		{api.OpAdd, -2, -3, -5},
		{api.OpAdd, greatest, 1, least},
		{api.OpAdd, least, -1, greatest},
		{api.OpAdd, greatest, greatest, -2},
		{api.OpAdd, least, least, 0},
		{api.OpSub, 2, 3, -1},
		{api.OpSub, 3, 2, 1},
		{api.OpSub, -3, -3, 0},
		{api.OpSub, least, 1, greatest},
		{api.OpSub, greatest, -1, least},
		{api.OpSub, 0, least, least},
		{api.OpSub, -1, least, greatest},
		{api.OpSub, least, least, 0},
		{api.OpMul, 6, 7, 42},
		{api.OpMul, -6, 7, -42},
		{api.OpMul, -6, -7, 42},
		{api.OpMul, greatest, 2, -2},
		{api.OpMul, least, 2, 0},
		{api.OpMul, least, -1, least},
		{api.OpMul, greatest, greatest, 1},
		{api.OpMul, 1 << 32, 1 << 31, least},
		{api.OpMul, 1 << 32, 1 << 32, 0},
		{api.OpMul, 0, least, 0},
		{api.OpDiv, 7, 2, 3},
		{api.OpDiv, -7, 2, -3},
		{api.OpDiv, 7, -2, -3},
		{api.OpDiv, -7, -2, 3},
		{api.OpDiv, 1, 2, 0},
		{api.OpDiv, -1, 2, 0},
		{api.OpDiv, 0, -2, 0},
		{api.OpDiv, least, -1, least},
		{api.OpDiv, least, 1, least},
		{api.OpDiv, least, least, 1},
		{api.OpDiv, greatest, -1, least + 1},
		{api.OpDiv, greatest, least, 0},
		{api.OpDiv, least, greatest, -1},
		{api.OpMod, 7, 2, 1},
		{api.OpMod, -7, 2, -1},
		{api.OpMod, 7, -2, 1},
		{api.OpMod, -7, -2, -1},
		{api.OpMod, 6, -2, 0},
		{api.OpMod, -6, 2, 0},
		{api.OpMod, 0, -2, 0},
		{api.OpMod, least, -1, 0},
		{api.OpMod, least, 1, 0},
		{api.OpMod, least, greatest, -1},
		{api.OpMod, greatest, least, greatest},
		{api.OpAnd, 12, 10, 8},
		{api.OpAnd, -1, 5, 5},
		{api.OpAnd, least, -1, least},
		{api.OpAnd, least, greatest, 0},
		{api.OpOr, 12, 10, 14},
		{api.OpOr, least, greatest, -1},
		{api.OpOr, -256, 255, -1},
		{api.OpOr, 0, 0, 0},
		{api.OpXor, 12, 10, 6},
		{api.OpXor, -1, greatest, least},
		{api.OpXor, -1, -1, 0},
		{api.OpLess, 1, 2, 1},
		{api.OpLess, 2, 1, 0},
		{api.OpLess, 2, 2, 0},
		{api.OpLess, 0, 0, 0},
		{api.OpLess, -1, 0, 1},
		{api.OpLess, 0, -1, 0},
		{api.OpLess, -2, -1, 1},
		{api.OpLess, -1, -2, 0},
		{api.OpLess, -1, -1, 0},
		{api.OpLess, least, greatest, 1},
		{api.OpLess, greatest, least, 0},
		{api.OpLess, least, least, 0},
		{api.OpLess, greatest, greatest, 0},
		{api.OpSame, 2, 2, 1},
		{api.OpSame, 2, 1, 0},
		{api.OpSame, 1, 2, 0},
		{api.OpSame, 0, 0, 1},
		{api.OpSame, 1, -1, 0},
		{api.OpSame, -1, -1, 1},
		{api.OpSame, least, greatest, 0},
		{api.OpSame, least, least, 1},
		{api.OpSame, 0, least, 0},
		{api.OpSame, 1, 1 << 32, 0},
	} {
		m := machine(1, 77, 77, 77, c.b, c.c)
		wantOne(t, of(c.op, 7, 3, 4), m, set(m, 7, c.want))
		wantOne(t, of(c.op, 3, 3, 4), m, set(m, 3, c.want))
		wantOne(t, of(c.op, 4, 3, 4), m, set(m, 4, c.want))
		if c.b == c.c {
			wantOne(t, of(c.op, 2, 3, 3), m, set(m, 2, c.want))
			wantOne(t, of(c.op, 3, 3, 3), m, set(m, 3, c.want))
		}
	}
}

// TestStepWords holds each Op of two words against unbounded integers.
func TestStepWords(t *testing.T) {
	for op := byte(api.OpAdd); op <= api.OpSame; op++ {
		for _, b := range words {
			for _, c := range words {
				m := machine(1, 77, b, c)
				i := of(op, 0, 1, 2)
				if c == 0 && (op == api.OpDiv || op == api.OpMod) {
					wantTrap(t, list(i), m, api.ErrZero)
					continue
				}
				wantStep(t, list(i), m, placed(set(m, 0, result(op, b, c)), 1), nothing)
			}
		}
	}
}

func TestStepDivideByZero(t *testing.T) {
	for _, op := range []byte{api.OpDiv, api.OpMod} {
		for _, w := range words {
			wantOneTrap(t, of(op, 5, 1, 2), machine(3, 9, w, 0, 9, 9, 9, 9, 9), api.ErrZero)
		}
		wantOneTrap(t, of(op, 0, 0, 0), machine(3), api.ErrZero)
		wantOneTrap(t, of(op, 7, 7, 6), machine(0, 1, 1, 1, 1, 1, 1, 0, 1), api.ErrZero)
	}
}

// TestStepLoadAndStore has each sum near the first and near the last word, with each way to come to it.
func TestStepLoadAndStore(t *testing.T) {
	for _, n := range []int{0, 1, 2, 63, 64, 65, 300} {
		for _, index := range []int{-256, -255, -2, -1, 0, 1, 2, n - 2, n - 1, n, n + 1, n + 255, 255, 256} {
			for _, c := range []int{0, 1, 127, 128, 254, 255} {
				m := machine(n, 55, int64(index-c))
				load, stored := of(api.OpLoad, 0, 1, byte(c)), of(api.OpStore, 0, 1, byte(c))
				if index < 0 || index >= n {
					wantOneTrap(t, load, m, api.ErrMemory)
					wantOneTrap(t, stored, m, api.ErrMemory)
					continue
				}
				wantOne(t, load, m, set(m, 0, int64(100+index)))
				wantOne(t, stored, m, store(m, index, 55))
			}
		}
	}
}

// TestStepNoSuchWord has sums that are far from all words, beyond the greatest int64, too.
func TestStepNoSuchWord(t *testing.T) {
	for _, n := range []int{0, 1, 64, 1000} {
		for _, w := range []int64{least, least + 1, least + 254, least + 255, least + 256, -1 << 32, -1 << 31, -1000, -256, 1000, 1 << 31, 1 << 32, 1<<32 + 1, greatest - 256, greatest - 255, greatest - 254, greatest - 1, greatest} {
			for _, c := range []byte{0, 1, 254, 255} {
				m := machine(n, 55, w)
				wantOneTrap(t, of(api.OpLoad, 0, 1, c), m, api.ErrMemory)
				wantOneTrap(t, of(api.OpStore, 0, 1, c), m, api.ErrMemory)
			}
		}
	}
	for _, c := range []byte{0, 255} {
		bare := pvm.Machine{}
		wantOneTrap(t, of(api.OpLoad, 0, 0, c), bare, api.ErrMemory)
		wantOneTrap(t, of(api.OpStore, 0, 0, c), bare, api.ErrMemory)
	}
	// What is behind the words, but still in their memory, is no word.
	m := machine(8, 55, 4)
	m.Memory = m.Memory[:4]
	wantOneTrap(t, of(api.OpLoad, 0, 1, 0), m, api.ErrMemory)
	wantOneTrap(t, of(api.OpStore, 0, 1, 3), m, api.ErrMemory)
}

// TestStepLoadAndStoreOfOneRegister: the register may be the one that the index comes from.
func TestStepLoadAndStoreOfOneRegister(t *testing.T) {
	for a := range 8 {
		for b := range 8 {
			m := machine(9, 1, 2, 3, 4, 5, 6, 7, 8)
			wantOne(t, of(api.OpLoad, byte(a), byte(b), 0), m, set(m, a, int64(101+b)))
			wantOne(t, of(api.OpStore, byte(a), byte(b), 0), m, store(m, b+1, int64(a+1)))
		}
	}
}

func TestStepLoadsAnyWord(t *testing.T) {
	for _, w := range words {
		m := machine(3, 0, 1)
		loaded := store(m, 2, w)
		wantOne(t, of(api.OpLoad, 7, 1, 1), loaded, set(loaded, 7, w))
		stored := set(m, 7, w)
		wantOne(t, of(api.OpStore, 7, 1, 1), stored, store(stored, 2, w))
	}
}

// TestStepJump: the number may be any, and what follows then is a trap.
func TestStepJump(t *testing.T) {
	for _, number := range []int{0, 1, 2, 3, 4, 5, 6, 127, 128, 255, 256, 257, 32767, 32768, 65534, 65535} {
		for _, place := range []int{0, 2, 4} {
			m := placed(machine(2, 1, 2, 3), place)
			for _, i := range list(to(api.OpJump, 0, number), to(api.OpZero, 7, number)) {
				l := with(halts(5), place, i)
				wantStep(t, l, m, placed(m, number), nothing)
				if number > 4 {
					wantTrap(t, l, placed(m, number), api.ErrPlace)
				}
			}
		}
	}
	wantStep(t, list(jump), machine(0), machine(0), nothing)
}

func TestStepZero(t *testing.T) {
	for _, w := range words {
		for _, number := range []int{0, 1, 2, 4, 5, 300, 65535} {
			for _, place := range []int{0, 2, 4} {
				for register := range byte(8) {
					// The other registers would lead to the other place.
					others, want := machine(2), place+1
					if w == 0 {
						others, want = machine(2, 1, 1, 1, 1, 1, 1, 1, 1), number
					}
					m := placed(set(others, int(register), w), place)
					wantStep(t, with(halts(5), place, to(api.OpZero, register, number)), m, placed(m, want), nothing)
				}
			}
		}
	}
}

func TestStepCall(t *testing.T) {
	for service := range 256 {
		i := of(api.OpCall, byte(service), 0, 0)
		for _, place := range []int{0, 2, 4} {
			m := placed(machine(2, 1, 2, 3), place)
			l := with(halts(5), place, i)
			if service < 16 {
				wantStep(t, l, m, placed(m, place+1), api.Event{Kind: api.EventCall, N: service})
			} else {
				wantTrap(t, l, m, api.ErrIll)
			}
		}
	}
	if api.Services != 16 || api.EventCall != 1 || api.EventTrap != 3 {
		t.Errorf("%d services, EventCall %d, EventTrap %d", api.Services, api.EventCall, api.EventTrap)
	}
}

// TestStepNoPlace: where there is no instruction is a trap, whatever the list.
func TestStepNoPlace(t *testing.T) {
	m := machine(3, 1, 2, 3)
	long := slices.Repeat(list(of(api.OpSet, 0, 9, 0)), 9)
	for _, l := range [][]api.Instr{nil, list(), list(halt), list(none), list(jump), halts(5), long, long[:4], long[:0]} {
		for _, place := range append(slices.Clone(ints), len(l), len(l)+1, len(l)+4, 65535, 65536, 1<<32, math.MaxInt32, math.MaxInt-1, math.MaxInt) {
			wantTrap(t, l, placed(m, place), api.ErrPlace)
		}
	}
}

// TestStepIll gives each Op each value of one byte, and all edges of its three bytes, and asks the table of chapter 7.
func TestStepIll(t *testing.T) {
	m := machine(2, 1, 1, 1, 1, 1, 1, 1, 1)
	ask := func(i api.Instr) {
		l := list(halt, i, halt)
		want, event := model(l, placed(m, 1))
		if ill := event == (api.Event{Kind: 3, N: 83}); ill == formed(i) {
			t.Fatalf("the model of %v: %v", i, event)
		}
		wantStep(t, l, placed(m, 1), want, event)
	}
	for op := range 256 {
		for b := range 256 {
			ask(of(byte(op), byte(b), 0, 0))
			ask(of(byte(op), 0, byte(b), 0))
			ask(of(byte(op), 0, 0, byte(b)))
		}
		for _, a := range edges {
			for _, b := range edges {
				for _, c := range edges {
					ask(of(byte(op), a, b, c))
				}
			}
		}
	}
}

// TestStepIllOps has a line for each requirement of the table of chapter 7, and the Ops that are none.
func TestStepIllOps(t *testing.T) {
	ill := list(of(api.OpHalt, 1, 0, 0), of(api.OpHalt, 0, 1, 0), of(api.OpHalt, 0, 0, 1), of(api.OpSet, 8, 0, 0), of(api.OpMove, 8, 0, 0), of(api.OpMove, 0, 8, 0), of(api.OpMove, 0, 0, 1), of(api.OpLoad, 8, 0, 0), of(api.OpLoad, 0, 8, 0), of(api.OpStore, 8, 0, 0), of(api.OpStore, 0, 8, 0), of(api.OpJump, 1, 0, 0), of(api.OpZero, 8, 0, 0), of(api.OpCall, 16, 0, 0), of(api.OpCall, 0, 1, 0), of(api.OpCall, 0, 0, 1))
	for op := byte(api.OpAdd); op <= api.OpSame; op++ {
		ill = append(ill, of(op, 8, 0, 0), of(op, 0, 8, 0), of(op, 0, 0, 8))
	}
	for op := api.OpCall + 1; op < 256; op++ {
		ill = append(ill, of(byte(op), 0, 0, 0))
	}
	for _, i := range ill {
		wantOneTrap(t, i, machine(3, 1, 1, 1, 1, 1, 1, 1, 1), api.ErrIll)
		// ErrIll comes ahead of ErrZero and of ErrMemory.
		wantOneTrap(t, i, machine(0), api.ErrIll)
	}
	// What else is in the list does not count, nor how long it is.
	for place, i := range ill {
		wantTrap(t, ill, placed(machine(1), place), api.ErrIll)
		wantTrap(t, with(halts(70000), 66000, i), placed(machine(1), 66000), api.ErrIll)
	}
	l := list(none, of(api.OpSet, 3, 7, 0), none)
	wantStep(t, l, placed(machine(1), 1), set(placed(machine(1), 2), 3, 7), nothing)
}

// TestStepDoesNotRun: nothing is done, whatever the state, the place and the instruction.
func TestStepDoesNotRun(t *testing.T) {
	l := list(of(api.OpSet, 0, 9, 0), of(api.OpStore, 1, 1, 0), of(api.OpDiv, 0, 0, 7), of(api.OpCall, 7, 0, 0), none, jump, halt)
	for _, state := range append(slices.Clone(ints), 1, 2, 3, 4, 255, 256, 65536, 1<<32, math.MaxInt) {
		for _, trap := range []api.Errno{math.MinInt, -1, 0, 1, 79, 80, 81, 82, 83, 84, math.MaxInt} {
			for _, place := range []int{math.MinInt, -1, 0, 1, 2, 3, 4, 5, 6, 7, math.MaxInt} {
				for _, n := range []int{0, 5, 65} {
					m := ended(placed(machine(n, 4, 3), place), state, trap)
					wantStep(t, l, m, m, nothing)
					wantStep(t, nil, m, m, nothing)
				}
			}
		}
	}
}

// TestStepNotValid: a machine that Runs needs not be valid for a step.
func TestStepNotValid(t *testing.T) {
	// A Trap that it has stays, but for a trap.
	m := ended(machine(2, 5, 1), api.Runs, 7)
	wantOne(t, of(api.OpSet, 0, 9, 0), m, set(m, 0, 9))
	wantOne(t, of(api.OpStore, 0, 1, 0), m, store(m, 1, 5))
	wantStep(t, list(halt), m, ended(m, api.Halted, 7), api.Event{Kind: api.EventHalt})
	wantStep(t, list(of(api.OpCall, 3, 0, 0)), m, placed(m, 1), api.Event{Kind: api.EventCall, N: 3})
	wantTrap(t, list(none), m, api.ErrIll)
	// More words than MaxMemory are words, too.
	for _, n := range []int{65, 1000} {
		m := machine(n, 5, int64(n-1))
		wantOne(t, of(api.OpLoad, 0, 1, 0), m, set(m, 0, int64(100+n-1)))
		wantOne(t, of(api.OpStore, 0, 1, 0), m, store(m, n-1, 5))
		wantOneTrap(t, of(api.OpStore, 0, 1, 1), m, api.ErrMemory)
	}
	// A list may be longer than a program, and than two bytes can number.
	l := slices.Repeat(list(of(api.OpSet, 0, 9, 0)), 70000)
	for _, place := range []int{127, 128, 255, 256, 65534, 65535, 65536, 69999} {
		m := placed(machine(1), place)
		wantStep(t, l, m, set(placed(m, place+1), 0, 9), nothing)
		l[place] = to(api.OpJump, 0, 3)
		wantStep(t, l, m, placed(m, 3), nothing)
	}
	wantTrap(t, l, placed(machine(1), 70000), api.ErrPlace)
}

// TestStepTrapStays has each trap with registers, words and a Trap that are not 0.
func TestStepTrapStays(t *testing.T) {
	m := machine(4, 1, -2, least, greatest, 0, -1, 255, 8)
	l := list(of(api.OpDiv, 0, 1, 4), of(api.OpMod, 3, 3, 4), of(api.OpLoad, 0, 5, 0), of(api.OpStore, 7, 6, 0), of(api.OpLoad, 0, 3, 255), none, of(api.OpSet, 8, 1, 1))
	traps := []api.Errno{80, 80, 81, 81, 81, 83, 83, 82}
	for place, trap := range traps {
		wantTrap(t, l, placed(m, place), trap)
		wantTrap(t, l, ended(placed(m, place), api.Runs, 9), trap)
		trapped, _ := pvm.Step(l, placed(m, place))
		wantStep(t, l, trapped, trapped, nothing)
	}
}

// TestStepAnything holds any step against the model.
func TestStepAnything(t *testing.T) {
	r := rand.New(rand.NewSource(81))
	traps := map[int]int{}
	for range 60000 {
		l := anyList(r, r.Intn(12))
		m := anyMachine(r, len(l))
		want, event := model(l, m)
		wantStep(t, l, m, want, event)
		traps[event.N]++
	}
	for trap := 80; trap <= 83; trap++ {
		if traps[trap] < 50 {
			t.Errorf("%d traps %d", traps[trap], trap)
		}
	}
}

// P8.2: Run.

// counts is a loop of three instructions: it counts register 1 down to 0, then calls service 7, and halts.
func counts() []api.Instr {
	return list(of(api.OpSub, 1, 1, 2), to(api.OpZero, 1, 3), jump, of(api.OpCall, 7, 0, 0), halt)
}

func TestRunNoSteps(t *testing.T) {
	m := machine(3, 4, 5, 1)
	for _, n := range append(slices.Clone(ints), 0) {
		for _, l := range [][]api.Instr{nil, counts(), list(halt), list(none)} {
			wantRun(t, l, m, n, m, nothing, 0)
			wantRun(t, l, placed(m, -1), n, placed(m, -1), nothing, 0)
			wantRun(t, l, ended(m, api.Halted, 0), n, ended(m, api.Halted, 0), nothing, 0)
		}
	}
}

func TestRunSteps(t *testing.T) {
	m := machine(2, 9, 5, 1)
	for n := 1; n <= 13; n++ {
		rest := int64(5 - (n+2)/3)
		wantRun(t, counts(), m, n, set(placed(m, n%3), 1, rest), nothing, n)
	}
	wantRun(t, counts(), m, 14, set(placed(m, 3), 1, 0), nothing, 14)
	call := api.Event{Kind: api.EventCall, N: 7}
	for _, n := range []int{15, 16, 17, 1000, math.MaxInt32, math.MaxInt} {
		wantRun(t, counts(), m, n, set(placed(m, 4), 1, 0), call, 15)
	}
}

// TestRunUpTo has what a program takes, one step more, and one less, for each event.
func TestRunUpTo(t *testing.T) {
	one := of(api.OpSet, 0, 1, 0)
	m := machine(2, 7, 6, 0, 2)
	for _, c := range []struct {
		i     api.Instr
		state int
		event api.Event
	}{
		{halt, api.Halted, api.Event{Kind: api.EventHalt}},
		{of(api.OpCall, 0, 0, 0), api.Runs, api.Event{Kind: api.EventCall}},
		{of(api.OpCall, 15, 0, 0), api.Runs, api.Event{Kind: api.EventCall, N: 15}},
		{of(api.OpDiv, 0, 0, 2), api.Trapped, api.Event{Kind: api.EventTrap, N: 80}},
		{of(api.OpMod, 0, 0, 2), api.Trapped, api.Event{Kind: api.EventTrap, N: 80}},
		{of(api.OpLoad, 0, 3, 0), api.Trapped, api.Event{Kind: api.EventTrap, N: 81}},
		{of(api.OpStore, 0, 3, 255), api.Trapped, api.Event{Kind: api.EventTrap, N: 81}},
		{none, api.Trapped, api.Event{Kind: api.EventTrap, N: 83}},
		{of(api.OpCall, 16, 0, 0), api.Trapped, api.Event{Kind: api.EventTrap, N: 83}},
	} {
		l := list(one, one, c.i, one, halt)
		before := set(placed(m, 2), 0, 1)
		after := ended(before, c.state, 0)
		if c.state == api.Trapped {
			after.Trap = api.Errno(c.event.N)
		}
		if c.state == api.Runs {
			after.Place = 3
		}
		wantRun(t, l, m, 1, set(placed(m, 1), 0, 1), nothing, 1)
		wantRun(t, l, m, 2, before, nothing, 2)
		wantRun(t, l, m, 3, after, c.event, 3)
		wantRun(t, l, m, 4, after, c.event, 3)
		wantRun(t, l, m, math.MaxInt, after, c.event, 3)
		wantRun(t, l, before, 1, after, c.event, 1)
		wantRun(t, l, before, 9, after, c.event, 1)
	}
	// Behind the last instruction.
	l := list(one, one)
	after := set(placed(m, 2), 0, 1)
	wantRun(t, l, m, 2, after, nothing, 2)
	wantRun(t, l, m, 3, ended(after, api.Trapped, 82), api.Event{Kind: api.EventTrap, N: 82}, 3)
	wantRun(t, l, m, 9, ended(after, api.Trapped, 82), api.Event{Kind: api.EventTrap, N: 82}, 3)
	wantRun(t, nil, m, 9, ended(m, api.Trapped, 82), api.Event{Kind: api.EventTrap, N: 82}, 1)
	wantRun(t, l, placed(m, -1), 9, ended(placed(m, -1), api.Trapped, 82), api.Event{Kind: api.EventTrap, N: 82}, 1)
}

func TestRunDoesNotRun(t *testing.T) {
	for _, state := range append(slices.Clone(ints), 1, 2, 3, 255, 256, 1<<32, math.MaxInt) {
		m := ended(machine(3, 4, 5, 1), state, 80)
		for _, n := range []int{math.MinInt, -1, 0, 1, 2, 9, math.MaxInt} {
			wantRun(t, counts(), m, n, m, nothing, 0)
			wantRun(t, nil, m, n, m, nothing, 0)
			wantRun(t, list(halt), m, n, m, nothing, 0)
		}
	}
}

func TestRunLoop(t *testing.T) {
	m := machine(1, 3)
	for _, n := range []int{1, 2, 1000, 100000} {
		wantRun(t, list(jump), m, n, m, nothing, n)
		wantRun(t, list(of(api.OpAdd, 1, 1, 0), jump), m, 2*n, set(m, 1, int64(3*n)), nothing, 2*n)
	}
}

// TestRunStores: what an earlier step stores, a later one loads.
func TestRunStores(t *testing.T) {
	l := list(of(api.OpStore, 0, 1, 0), of(api.OpLoad, 2, 1, 0), of(api.OpStore, 2, 1, 1), halt)
	m := machine(3, 42, 1)
	after := set(placed(store(store(m, 1, 42), 2, 42), 3), 2, 42)
	wantRun(t, l, m, 9, ended(after, api.Halted, 0), api.Event{Kind: api.EventHalt}, 4)
}

func TestRunAnything(t *testing.T) {
	r := rand.New(rand.NewSource(82))
	for range 20000 {
		l := anyList(r, r.Intn(12))
		m := anyMachine(r, len(l))
		n := r.Intn(40) - 2
		want, event, steps := modelRun(l, m, n)
		wantRun(t, l, m, n, want, event, steps)
	}
}

// P8.3: May, Save and Restore.

// valid reports whether the machine is valid, as the chapter words it.
func valid(m pvm.Machine) bool {
	place := 0 <= m.Place && m.Place <= 65535
	trap := m.State >= 0 && m.State < 2 && m.Trap == 0 || m.State == 2 && slices.Contains([]api.Errno{80, 81, 82, 83}, m.Trap)
	return place && len(m.Memory) <= 64 && trap
}

// saved returns the bytes of a machine as the chapter words them, also of one that is not valid.
func saved(m pvm.Machine) []byte {
	low := func(n uint64, size int) []byte {
		var b []byte
		for ; size > 0; size-- {
			b = append(b, byte(n))
			n >>= 8
		}
		return b
	}
	b := append(low(uint64(m.Place), 2), byte(m.State), byte(m.Trap))
	for _, w := range m.R {
		b = append(b, low(uint64(w), 8)...)
	}
	b = append(b, byte(len(m.Memory)))
	for _, w := range m.Memory {
		b = append(b, low(uint64(w), 8)...)
	}
	return b
}

// wantRestored fails the test, unless Restore returns this machine.
func wantRestored(t *testing.T, b []byte, want pvm.Machine) {
	t.Helper()
	before := bytes.Clone(b)
	m, err := pvm.Restore(b)
	if err != nil || !same(m, want) {
		t.Errorf("Restore(%v) = %+v, %q, not %+v", b, m, fault.Text(err), want)
	}
	if !bytes.Equal(b, before) {
		t.Errorf("Restore changed %v to %v", before, b)
	}
}

// wantNotRestored fails the test, unless Restore returns a fault with this code, at this offset alone, and nothing else.
func wantNotRestored(t *testing.T, b []byte, want api.Errno, offset int, text string) {
	t.Helper()
	m, err := pvm.Restore(b)
	if !same(m, pvm.Machine{}) || len(m.Memory) > 0 {
		t.Errorf("Restore(%v) = %+v with the fault %q", b, m, fault.Text(err))
	}
	if fault.Code(err) != want || !slices.Equal(fault.Path(err), []int{offset}) || !slices.Equal(fault.Codes(err), []api.Errno{want}) || fault.Text(err) != text {
		t.Errorf("Restore of %d bytes: %q, not %q", len(b), fault.Text(err), text)
	}
}

// text returns the text of a fault without a cause.
func text(code api.Errno, offset int) string {
	return fault.Text(fault.New(code, offset))
}

// wantMachine fails the test, unless May, Save and Restore treat the machine as the chapter says.
func wantMachine(t *testing.T, m pvm.Machine) {
	t.Helper()
	want := valid(m)
	if pvm.May(m) != want {
		t.Errorf("May(%+v) is not %t", m, want)
	}
	b := pvm.Save(m)
	if !want && len(b) > 0 || want && !bytes.Equal(b, saved(m)) {
		t.Errorf("Save(%+v) = %v", m, b)
	}
	if want {
		wantRestored(t, b, m)
	}
}

func TestMay(t *testing.T) {
	for _, c := range []struct {
		place, words, state int
		trap                api.Errno
		want                bool
	}{
		{0, 0, 0, 0, true},
		{65535, 64, 0, 0, true},
		{-1, 0, 0, 0, false},
		{65536, 0, 0, 0, false},
		{math.MinInt, 0, 0, 0, false},
		{math.MaxInt, 0, 0, 0, false},
		{1 << 32, 0, 0, 0, false},
		{0, 65, 0, 0, false},
		{0, 1000, 0, 0, false},
		{0, 256, 0, 0, false},
		{0, 0, -1, 0, false},
		{0, 0, 1, 0, true},
		{0, 0, 2, 0, false},
		{0, 0, 3, 0, false},
		{0, 0, 0, 80, false},
		{0, 0, 1, 80, false},
		{0, 0, 2, 79, false},
		{0, 0, 2, 80, true},
		{0, 0, 2, 81, true},
		{0, 0, 2, 82, true},
		{0, 0, 2, 83, true},
		{0, 0, 2, 84, false},
		{0, 0, 3, 80, false},
		{0, 0, -1, 80, false},
		{0, 0, 2, 80 + 256, false},
		{0, 0, 256, 0, false},
		{0, 0, 2 + 256, 80, false},
		{0, 0, 0, 256, false},
		{0, 0, 0, -1, false},
		{0, 0, 2, -80, false},
	} {
		m := pvm.Machine{Place: c.place, Memory: make([]int64, c.words), State: c.state, Trap: c.trap}
		if valid(m) != c.want {
			t.Errorf("%+v is not %t", m, c.want)
		}
		wantMachine(t, m)
	}
}

// TestMayEdges has each combination of the edges of each part of a machine.
func TestMayEdges(t *testing.T) {
	for _, place := range []int{math.MinInt, -65536, -1, 0, 1, 255, 256, 65534, 65535, 65536, 65537, 1 << 32, math.MaxInt} {
		for _, n := range []int{0, 1, 2, 63, 64, 65, 66, 255, 256, 300} {
			for _, state := range []int{math.MinInt, -256, -2, -1, 0, 1, 2, 3, 4, 255, 256, 257, 258, math.MaxInt} {
				for _, trap := range []api.Errno{math.MinInt, -256, -1, 0, 1, 79, 80, 81, 82, 83, 84, 255, 256, 256 + 80, math.MaxInt} {
					m := ended(placed(machine(n, -1), place), state, trap)
					wantMachine(t, m)
				}
			}
		}
	}
}

func TestSaveBytes(t *testing.T) {
	m := pvm.Machine{Place: 258, State: 2, Trap: 81, Memory: []int64{1, least, -2}}
	m.R = [8]int64{least, -1, 0, greatest, 1, 256, 0x0102030405060708, -0x0102030405060708}
	want := []byte{2, 1, 2, 81,
		0, 0, 0, 0, 0, 0, 0, 128,
		255, 255, 255, 255, 255, 255, 255, 255,
		0, 0, 0, 0, 0, 0, 0, 0,
		255, 255, 255, 255, 255, 255, 255, 127,
		1, 0, 0, 0, 0, 0, 0, 0,
		0, 1, 0, 0, 0, 0, 0, 0,
		8, 7, 6, 5, 4, 3, 2, 1,
		248, 248, 249, 250, 251, 252, 253, 254,
		3,
		1, 0, 0, 0, 0, 0, 0, 0,
		0, 0, 0, 0, 0, 0, 0, 128,
		254, 255, 255, 255, 255, 255, 255, 255}
	if b := pvm.Save(m); !bytes.Equal(b, want) {
		t.Errorf("Save(%+v) = %v", m, b)
	}
	wantRestored(t, want, m)
	if b := pvm.Save(pvm.New(0)); !bytes.Equal(b, make([]byte, 69)) {
		t.Errorf("Save(New(0)) = %v", b)
	}
	wantRestored(t, make([]byte, 69), pvm.Machine{})
}

func TestSaveWords(t *testing.T) {
	for _, w := range words {
		for n := range 65 {
			m := machine(n)
			for at := range m.R {
				wantMachine(t, set(m, at, w))
			}
			if n > 0 {
				wantMachine(t, store(m, 0, w))
				wantMachine(t, store(m, n-1, w))
			}
		}
	}
}

// TestRestoreBytes has each value of the bytes that may be wrong, and whether more bytes follow.
func TestRestoreBytes(t *testing.T) {
	for _, n := range []int{0, 1, 64} {
		for state := range 256 {
			for trap := range 256 {
				m := ended(machine(n, -1, 5), state, api.Errno(trap))
				b := saved(m)
				if valid(m) {
					wantRestored(t, b, m)
					wantNotRestored(t, append(b, 0), api.ErrExtra, len(b), text(api.ErrExtra, len(b)))
				} else {
					wantNotRestored(t, b, api.ErrForm, len(b), text(api.ErrForm, len(b)))
					wantNotRestored(t, append(b, 0), api.ErrForm, len(b), text(api.ErrForm, len(b)))
				}
			}
		}
	}
	for place := range 65536 {
		m := placed(machine(1), place)
		b := saved(m)
		b[0], b[1] = byte(place%256), byte(place/256)
		wantRestored(t, b, m)
	}
}

// begin returns the offset of the part that is not complete, if so many bytes are there.
func begin(length int) int {
	if length < 2 {
		return 0
	}
	if length < 4 {
		return length
	}
	if length < 68 {
		return length - (length-4)%8
	}
	if length == 68 {
		return 68
	}
	return length - (length-69)%8
}

// TestRestoreBeginnings has each beginning of what Save writes, for machines with no, one and 64 words, and for some that are not valid: those are too short first.
func TestRestoreBeginnings(t *testing.T) {
	for _, n := range []int{0, 1, 2, 64, 65, 255} {
		for _, m := range []pvm.Machine{machine(n, least, -1, 0, greatest), ended(placed(machine(n, 7), 65535), 2, 83), ended(machine(n), 3, 0), ended(machine(n), 0, 80)} {
			b := saved(m)
			for length := range len(b) {
				wantNotRestored(t, b[:length], api.ErrShort, begin(length), text(api.ErrShort, begin(length)))
			}
		}
	}
	for _, c := range []struct {
		length int
		text   string
	}{
		{0, "2@0"},
		{1, "2@0"},
		{2, "2@2"},
		{3, "2@3"},
		{4, "2@4"},
		{11, "2@4"},
		{12, "2@12"},
		{59, "2@52"},
		{60, "2@60"},
		{67, "2@60"},
		{68, "2@68"},
		{69, "2@69"},
		{76, "2@69"},
		{77, "2@77"},
		{84, "2@77"},
	} {
		b := pvm.Save(machine(2))[:c.length]
		if _, err := pvm.Restore(b); fault.Text(err) != c.text {
			t.Errorf("Restore of %d bytes: %q, not %q", c.length, fault.Text(err), c.text)
		}
	}
	wantNotRestored(t, nil, api.ErrShort, 0, "2@0")
}

// TestRestoreTooManyWords: as many words are read as their number says, and only then it is too great.
func TestRestoreTooManyWords(t *testing.T) {
	for _, n := range []int{65, 66, 128, 254, 255} {
		m := machine(n, 3)
		b := saved(m)
		end := 69 + 8*n
		wantNotRestored(t, b, api.ErrForm, end, text(api.ErrForm, end))
		wantNotRestored(t, append(bytes.Clone(b), 0), api.ErrForm, end, text(api.ErrForm, end))
		wantNotRestored(t, append(bytes.Clone(b), b...), api.ErrForm, end, text(api.ErrForm, end))
		wantNotRestored(t, b[:69], api.ErrShort, 69, "2@69")
		wantNotRestored(t, b[:69+8*64], api.ErrShort, 581, "2@581")
		wantNotRestored(t, b[:len(b)-1], api.ErrShort, end-8, text(api.ErrShort, end-8))
	}
	if b := saved(machine(255)); b[68] != 255 {
		t.Errorf("%d words", b[68])
	}
	wantNotRestored(t, saved(machine(65)), api.ErrForm, 589, "3@589")
	wantNotRestored(t, saved(machine(255)), api.ErrForm, 2109, "3@2109")
}

// TestRestoreMoreBytes: bytes that are left come last.
func TestRestoreMoreBytes(t *testing.T) {
	for _, n := range []int{0, 1, 63, 64} {
		m := machine(n, 3)
		b := saved(m)
		for _, more := range [][]byte{{0}, {255}, {0, 0, 0, 0, 0, 0, 0, 0}, b} {
			longer := append(bytes.Clone(b), more...)
			wantNotRestored(t, longer, api.ErrExtra, len(b), text(api.ErrExtra, len(b)))
			longer[2] = 3
			wantNotRestored(t, longer, api.ErrForm, len(b), text(api.ErrForm, len(b)))
			longer[2], longer[3] = 0, 80
			wantNotRestored(t, longer, api.ErrForm, len(b), text(api.ErrForm, len(b)))
		}
	}
	wantNotRestored(t, make([]byte, 70), api.ErrExtra, 69, "7@69")
	// With fewer words than are there.
	b := saved(machine(2))
	b[68] = 1
	wantNotRestored(t, b, api.ErrExtra, 77, "7@77")
}

func TestRestoreAnything(t *testing.T) {
	r := rand.New(rand.NewSource(83))
	for range 20000 {
		m := anyMachine(r, 300)
		m.State, m.Trap = r.Intn(4), api.Errno(r.Intn(6)+79)
		if r.Intn(2) == 0 {
			m.Trap = 0
		}
		wantMachine(t, m)
		b := make([]byte, r.Intn(200))
		for at := range b {
			b[at] = byte(r.Intn(256)) >> r.Intn(9)
		}
		m, err := pvm.Restore(b)
		if err == nil && (!pvm.May(m) || !bytes.Equal(pvm.Save(m), b)) || err != nil && !same(m, pvm.Machine{}) {
			t.Errorf("Restore(%v) = %+v, %q", b, m, fault.Text(err))
		}
	}
}

// TestSavesDiffer: no two valid machines have the same bytes.
func TestSavesDiffer(t *testing.T) {
	r := rand.New(rand.NewSource(84))
	seen := map[string]pvm.Machine{}
	for range 20000 {
		m := anyMachine(r, 3)
		m.Memory = m.Memory[:min(len(m.Memory), r.Intn(3))]
		m.Place = max(m.Place, 0)
		for at := range m.R {
			m.R[at] = int64(r.Intn(2))
		}
		b := string(pvm.Save(m))
		if other, ok := seen[b]; ok && !same(m, other) {
			t.Errorf("%+v and %+v have the same bytes", m, other)
		}
		seen[b] = m
	}
}

// P8.4: consequences.

// differences returns in how many registers and words the machines differ.
func differences(m, other pvm.Machine) int {
	n := 0
	for at := range m.R {
		if m.R[at] != other.R[at] {
			n++
		}
	}
	for at := range m.Memory {
		if m.Memory[at] != other.Memory[at] {
			n++
		}
	}
	return n
}

func TestStepChangesLittle(t *testing.T) {
	r := rand.New(rand.NewSource(85))
	changed := 0
	for range 30000 {
		l := anyList(r, 1+r.Intn(5))
		m := anyMachine(r, len(l))
		got, e := pvm.Step(l, m)
		n := differences(m, got)
		changed += n
		if len(got.Memory) != len(m.Memory) || n > 1 || e != nothing && n > 0 {
			t.Errorf("Step(%v, %+v) = %+v, %v", l, m, got, e)
		}
		if e.Kind == api.EventTrap && got.Place != m.Place {
			t.Errorf("the trap of Step(%v, %+v) is at %d", l, m, got.Place)
		}
	}
	if changed < 5000 {
		t.Errorf("%d steps changed something", changed)
	}
}

// TestProgramsTrapWhileTheyRun: a program that begins at place 0 never leaves it, nor comes to what is no instruction.
func TestProgramsTrapWhileTheyRun(t *testing.T) {
	r := rand.New(rand.NewSource(86))
	traps, ends := 0, 0
	for range 5000 {
		l := anyProgram(r, 1+r.Intn(1+r.Intn(128)))
		if err := code.Check(l); err != nil {
			t.Fatalf("Check(%v): %s", l, fault.Text(err))
		}
		m := anyMachine(r, 1)
		m.Place = 0
		for range 20 {
			var e api.Event
			m, e, _ = pvm.Run(l, m, 40)
			if e.Kind == api.EventTrap {
				traps++
			}
			if e.Kind == api.EventHalt {
				ends++
			}
			if m.Trap == api.ErrPlace || m.Trap == api.ErrIll || m.Place < 0 || m.Place >= len(l) {
				t.Fatalf("the program %v: %+v, %v", l, m, e)
			}
		}
	}
	if traps < 500 || ends < 500 {
		t.Errorf("%d programs trap, %d halt", traps, ends)
	}
}

func TestRunOfRun(t *testing.T) {
	r := rand.New(rand.NewSource(87))
	both := 0
	for range 20000 {
		l := anyProgram(r, 1+r.Intn(12))
		if r.Intn(2) == 0 {
			l = anyList(r, r.Intn(12))
		}
		m := anyMachine(r, len(l))
		if r.Intn(8) == 0 {
			m.State = r.Intn(5) - 1
		}
		n, more := r.Intn(9), r.Intn(9)
		first, e, steps := pvm.Run(l, m, n)
		if e != nothing {
			continue
		}
		second, event, rest := pvm.Run(l, first, more)
		wantRun(t, l, m, n+more, second, event, steps+rest)
		both++
	}
	if both < 5000 {
		t.Errorf("%d runs of two parts", both)
	}
}

func TestRunIsSteps(t *testing.T) {
	r := rand.New(rand.NewSource(88))
	for range 5000 {
		l := anyProgram(r, 1+r.Intn(12))
		m := anyMachine(r, len(l))
		got := m
		var e api.Event
		n := 0
		for n < 30 && got.State == api.Runs && e == nothing {
			got, e = pvm.Step(l, got)
			n++
		}
		wantRun(t, l, m, 30, got, e, n)
	}
}

// R1 to R6: what is handed in, and what is returned.

// spoil changes a machine's words, and all the room behind them.
func spoil(m pvm.Machine) {
	all := m.Memory[:cap(m.Memory)]
	for at := range all {
		all[at] = ^all[at]
	}
}

// spoilBytes changes the bytes, and all the room behind them.
func spoilBytes(b []byte) {
	all := b[:cap(b)]
	for at := range all {
		all[at] ^= 255
	}
}

// kinds are instructions of which a step is each kind of thing, in the machine that kindsOf returns.
func kinds() []api.Instr {
	return list(of(api.OpSet, 0, 9, 0), of(api.OpStore, 1, 1, 0), of(api.OpLoad, 2, 1, 0), of(api.OpCall, 3, 0, 0), jump, to(api.OpZero, 7, 2), halt, none, of(api.OpDiv, 0, 0, 7), of(api.OpLoad, 0, 0, 255))
}

// kindsOf returns machines at each place of kinds, and behind it, and some that do not Run.
func kindsOf() []pvm.Machine {
	m := machine(4, 5, 2, 7)
	l := []pvm.Machine{placed(m, -1), ended(m, 1, 0), ended(m, 2, 80), ended(m, 3, 0), ended(m, -1, 0)}
	for place := range len(kinds()) + 1 {
		l = append(l, placed(m, place))
	}
	return l
}

// TestMemoryOfItsOwn: what was handed in and what was returned may be modified without an effect on the other, whatever the step.
func TestMemoryOfItsOwn(t *testing.T) {
	for _, m := range kindsOf() {
		before := clone(m)
		want, event := model(kinds(), m)
		for n := -1; n < 3; n++ {
			wantAfter, _, _ := modelRun(kinds(), before, n)
			after, _, _ := pvm.Run(kinds(), m, n)
			spoil(after)
			if !same(m, before) {
				t.Fatalf("Run's result changes what was handed in: %+v became %+v", before, m)
			}
			after, _, _ = pvm.Run(kinds(), m, n)
			spoil(m)
			if !same(after, wantAfter) {
				t.Errorf("what was handed in changes Run's result: %+v", after)
			}
			spoil(m)
		}
		got, _ := pvm.Step(kinds(), m)
		spoil(got)
		if !same(m, before) {
			t.Fatalf("Step's result changes what was handed in: %+v became %+v", before, m)
		}
		got, e := pvm.Step(kinds(), m)
		other, _ := pvm.Step(kinds(), m)
		spoil(other)
		spoil(m)
		if !same(got, want) || e != event {
			t.Errorf("what was handed in changes Step's result: %+v", got)
		}
	}
}

// TestMemoryBehind: what lies behind the words that are handed in stays as it was.
func TestMemoryBehind(t *testing.T) {
	for _, m := range kindsOf() {
		whole := []int64{100, 101, 102, 103, 104, 105}
		m.Memory = whole[:4]
		l := append(kinds(), none, none)
		for place := range l {
			m.Place = place
			pvm.Step(l[:10], m)
			pvm.Run(l[:10], m, 9)
			pvm.May(m)
			pvm.Save(m)
		}
		if !slices.Equal(whole, []int64{100, 101, 102, 103, 104, 105}) || !slices.Equal(l, append(kinds(), none, none)) {
			t.Errorf("%v, %v", whole, l)
		}
	}
}

// TestListStays: no call changes its list, nor keeps it.
func TestListStays(t *testing.T) {
	r := rand.New(rand.NewSource(89))
	for range 2000 {
		l := anyList(r, 1+r.Intn(8))
		before := slices.Clone(l)
		m := anyMachine(r, len(l))
		want, event, steps := modelRun(l, m, 9)
		pvm.Step(l, m)
		got, e, n := pvm.Run(l, m, 9)
		if !slices.Equal(l, before) {
			t.Fatalf("%v became %v", before, l)
		}
		for at := range l {
			l[at] = none
		}
		if !same(got, want) || e != event || n != steps {
			t.Errorf("Run(%v, %+v, 9) = %+v, %v, %d", before, m, got, e, n)
		}
	}
}

// TestResultsMayBeModified: what was returned has no effect on later calls, and two results share nothing.
func TestResultsMayBeModified(t *testing.T) {
	content := saved(machine(3, 5))
	for range 3 {
		m := pvm.New(3)
		if !same(m, pvm.Machine{Memory: make([]int64, 3)}) {
			t.Fatalf("New(3) = %+v", m)
		}
		spoil(m)
		b := pvm.Save(machine(3, 5))
		if !bytes.Equal(b, content) {
			t.Fatalf("Save = %v", b)
		}
		spoilBytes(b)
		restored, err := pvm.Restore(content)
		if err != nil || !same(restored, machine(3, 5)) {
			t.Fatalf("Restore = %+v, %q", restored, fault.Text(err))
		}
		spoil(restored)
		if !bytes.Equal(content, saved(machine(3, 5))) {
			t.Fatalf("the bytes became %v", content)
		}
	}
	first, second := pvm.New(4), pvm.New(4)
	spoil(first)
	if !same(second, pvm.Machine{Memory: make([]int64, 4)}) {
		t.Errorf("another New became %+v", second)
	}
	first, _ = pvm.Restore(content)
	second, _ = pvm.Restore(content)
	spoil(first)
	if !same(second, machine(3, 5)) {
		t.Errorf("another Restore became %+v", second)
	}
	_, err := pvm.Restore(content[:70])
	err.(*fault.Fault).At = 9
	_, err = pvm.Restore(content[:70])
	if fault.Text(err) != "2@69" {
		t.Errorf("another fault became %q", fault.Text(err))
	}
}

// TestArgumentsNotKept: what was returned stays as it was, if what was handed in is changed.
func TestArgumentsNotKept(t *testing.T) {
	m := machine(3, 5)
	b := pvm.Save(m)
	spoil(m)
	if !bytes.Equal(b, saved(machine(3, 5))) {
		t.Errorf("Save became %v", b)
	}
	restored, _ := pvm.Restore(b)
	short := append(bytes.Clone(b), 1)
	_, err := pvm.Restore(short)
	spoilBytes(b)
	spoilBytes(short)
	if !same(restored, machine(3, 5)) || fault.Text(err) != "7@93" {
		t.Errorf("Restore became %+v, %q", restored, fault.Text(err))
	}
}

// TestNoPanic: whatever the arguments, each call returns.
func TestNoPanic(t *testing.T) {
	r := rand.New(rand.NewSource(90))
	places := append(slices.Clone(ints), 0, 1, 2, 3, 4, 65535, 65536, math.MaxInt)
	for range 20000 {
		l := make([]api.Instr, r.Intn(5))
		for at := range l {
			l[at] = of(byte(r.Intn(256))>>r.Intn(8), byte(r.Intn(256))>>r.Intn(8), byte(r.Intn(256))>>r.Intn(8), byte(r.Intn(256)))
		}
		m := anyMachine(r, 4)
		m.Place = places[r.Intn(len(places))]
		m.State = places[r.Intn(len(places))]
		m.Trap = api.Errno(places[r.Intn(len(places))])
		if r.Intn(2) == 0 {
			m.State = api.Runs
		}
		want, event := model(l, m)
		wantStep(t, l, m, want, event)
		want, event, steps := modelRun(l, m, 20)
		wantRun(t, l, m, 20, want, event, steps)
		wantMachine(t, m)
	}
}

// Examples of the chapter.

func TestExamples(t *testing.T) {
	m, e := pvm.Step(list(of(api.OpSet, 0, 5, 0), halt), pvm.New(0))
	if m.R[0] != 5 || m.Place != 1 || e != nothing {
		t.Errorf("Step((Set 0 5, Halt), New(0)) = %+v, %v", m, e)
	}
	m, e = pvm.Step(list(of(api.OpDiv, 0, 0, 1), halt), pvm.New(0))
	if m.State != api.Trapped || m.Trap != api.ErrZero || m.Place != 0 || e != (api.Event{Kind: 3, N: 80}) {
		t.Errorf("Step((Div 0 0 1, Halt), New(0)) = %+v, %v", m, e)
	}
	m, e, n := pvm.Run(list(of(api.OpCall, 7, 0, 0), halt), pvm.New(0), 9)
	if m.Place != 1 || e != (api.Event{Kind: 1, N: 7}) || n != 1 {
		t.Errorf("Run((Call 7, Halt), New(0), 9) = %+v, %v, %d", m, e, n)
	}
}
