package code_test

import (
	"bytes"
	"math"
	"math/rand"
	"slices"
	"testing"

	"nacelle/api"
	"nacelle/code"
	"nacelle/fault"
)

// needs says for each Op what its bytes A, B and C need: to be 0, to be a register (r), to be a service (s), or nothing (*).
var needs = []string{
	api.OpHalt:  "000",
	api.OpSet:   "r**",
	api.OpMove:  "rr0",
	api.OpAdd:   "rrr",
	api.OpSub:   "rrr",
	api.OpMul:   "rrr",
	api.OpDiv:   "rrr",
	api.OpMod:   "rrr",
	api.OpAnd:   "rrr",
	api.OpOr:    "rrr",
	api.OpXor:   "rrr",
	api.OpLess:  "rrr",
	api.OpSame:  "rrr",
	api.OpLoad:  "rr*",
	api.OpStore: "rr*",
	api.OpJump:  "0**",
	api.OpZero:  "r**",
	api.OpCall:  "s00",
}

// edges are bytes near which requirements change.
var edges = []byte{0, 1, 2, 3, 6, 7, 8, 9, 14, 15, 16, 17, 127, 128, 129, 254, 255}

// halt, jump and none are instructions that many tests use; none has an Op that is none.
var (
	halt = of(api.OpHalt, 0, 0, 0)
	jump = of(api.OpJump, 0, 0, 0)
	none = of(api.OpCall+1, 0, 0, 0)
)

// of returns an instruction.
func of(op, a, b, c byte) api.Instr {
	return api.Instr{Op: op, A: a, B: b, C: c}
}

// list returns a list of instructions.
func list(l ...api.Instr) []api.Instr {
	return l
}

// halts returns a list of so many Halts.
func halts(n int) []api.Instr {
	return make([]api.Instr, n)
}

// with returns a copy of l that has i at that index.
func with(l []api.Instr, at int, i api.Instr) []api.Instr {
	l = slices.Clone(l)
	l[at] = i
	return l
}

// to returns an instruction with this Op whose number is n, and whose A is 0.
func to(op byte, n int) api.Instr {
	return of(op, 0, byte(n), byte(n>>8))
}

// meets reports whether the byte is what need says.
func meets(need, b byte) bool {
	return need == '*' || need == '0' && b == 0 || need == 'r' && b < 8 || need == 's' && b < 16
}

// formed reports whether the instruction is well formed, as the chapter's table says.
func formed(i api.Instr) bool {
	if int(i.Op) >= len(needs) {
		return false
	}
	need := needs[i.Op]
	return meets(need[0], i.A) && meets(need[1], i.B) && meets(need[2], i.C)
}

// placed reports whether the number is a place of a list of that length, if it must be one.
func placed(i api.Instr, length int) bool {
	return i.Op != api.OpJump && i.Op != api.OpZero || int(i.B)+256*int(i.C) < length
}

// wanted returns the fault of the list as the chapter words it: its code, and its position.
func wanted(l []api.Instr) (api.Errno, int) {
	if len(l) < 1 || len(l) > 128 {
		return api.ErrArg, 0
	}
	wrong := func(i api.Instr) bool { return !formed(i) || !placed(i, len(l)) }
	if at := slices.IndexFunc(l, wrong); at >= 0 {
		if !formed(l[at]) {
			return api.ErrForm, at
		}
		return api.ErrRange, at
	}
	if op := l[len(l)-1].Op; op != 0 && op != 15 {
		return api.ErrShort, len(l) - 1
	}
	return api.OK, 0
}

// anyList returns a list of so many instructions, of any kind, of which many are well formed.
func anyList(r *rand.Rand, n int) []api.Instr {
	l := make([]api.Instr, n)
	for at := range l {
		l[at] = of(byte(r.Intn(19)), byte(r.Intn(10)), byte(r.Intn(n+1)), 0)
		if r.Intn(8) == 0 {
			l[at].C = byte(r.Intn(256))
		}
		if r.Intn(40) == 0 {
			l[at].Op = byte(r.Intn(256))
		}
	}
	return l
}

// anyProgram returns a program of so many instructions.
func anyProgram(r *rand.Rand, n int) []api.Instr {
	l := make([]api.Instr, n)
	for at := range l {
		for {
			l[at] = of(byte(r.Intn(18)), byte(r.Intn(18)), byte(r.Intn(max(n, 10))), byte(r.Intn(3)))
			if r.Intn(4) > 0 {
				l[at].A %= 8
			}
			last := at == n-1 && l[at].Op != api.OpHalt && l[at].Op != api.OpJump
			if formed(l[at]) && placed(l[at], n) && !last {
				break
			}
		}
	}
	return l
}

// wantFault fails the test, unless err is a fault with this path, each of whose faults has this code.
func wantFault(t *testing.T, call string, err error, want api.Errno, path ...int) {
	t.Helper()
	codes := slices.Repeat([]api.Errno{want}, len(path))
	if !slices.Equal(fault.Codes(err), codes) || !slices.Equal(fault.Path(err), path) {
		t.Errorf("%s: %q, not the code %d at %v", call, fault.Text(err), want, path)
	}
}

// wantCheck fails the test, unless Check returns this code at that index.
func wantCheck(t *testing.T, l []api.Instr, want api.Errno, at int) {
	t.Helper()
	err := code.Check(l)
	if want == api.OK && err == nil || fault.Code(err) == want && slices.Equal(fault.Path(err), []int{at}) {
		return
	}
	t.Errorf("Check(%v): %q, not the code %d at %d", l, fault.Text(err), want, at)
}

// wantNoProgram fails the test, unless Decode returns this text of a fault, and nothing else.
func wantNoProgram(t *testing.T, b []byte, text string) {
	t.Helper()
	if l, err := code.Decode(b); fault.Text(err) != text || len(l) != 0 {
		t.Errorf("Decode(%v) = %v, %q, not %q", b, l, fault.Text(err), text)
	}
}

// wantProgram fails the test, unless Decode returns l.
func wantProgram(t *testing.T, b []byte, l []api.Instr) {
	t.Helper()
	if got, err := code.Decode(b); err != nil || !slices.Equal(got, l) {
		t.Errorf("Decode(%v) = %v, %q, not %v", b, got, fault.Text(err), l)
	}
}

// wantNext fails the test, unless Next returns these indices.
func wantNext(t *testing.T, l []api.Instr, at int, want ...int) {
	t.Helper()
	if got := code.Next(l, at); !slices.Equal(got, want) {
		t.Errorf("Next(%v, %d) = %v, not %v", l, at, got, want)
	}
}

// wantReached fails the test, unless Reached returns true for these indices only.
func wantReached(t *testing.T, l []api.Instr, want ...int) {
	t.Helper()
	bools := make([]bool, len(l))
	for _, at := range want {
		bools[at] = true
	}
	if got := code.Reached(l); !slices.Equal(got, bools) {
		t.Errorf("Reached(%v) = %v, not %v", l, got, bools)
	}
}

// P7.1: Check.

func TestCheckLengths(t *testing.T) {
	wantCheck(t, nil, api.ErrArg, 0)
	wantCheck(t, list(), api.ErrArg, 0)
	for _, n := range []int{1, 2, 3, 127, 128} {
		wantCheck(t, halts(n), api.OK, 0)
		wantCheck(t, with(halts(n), n-1, jump), api.OK, 0)
		wantCheck(t, with(halts(n), n-1, none), api.ErrForm, n-1)
	}
	for _, n := range []int{129, 130, 255, 256, 257, 512, 100000} {
		if api.MaxCode >= n {
			t.Fatalf("MaxCode is %d", api.MaxCode)
		}
		wantCheck(t, halts(n), api.ErrArg, 0)
		wantCheck(t, with(halts(n), 1, none), api.ErrArg, 0)
		wantCheck(t, with(halts(n), 0, to(api.OpJump, n)), api.ErrArg, 0)
		wantCheck(t, with(halts(n), n-1, of(api.OpSet, 0, 0, 0)), api.ErrArg, 0)
	}
}

func TestCheckOfOne(t *testing.T) {
	for _, c := range []struct {
		i    api.Instr
		want api.Errno
	}{
		{halt, api.OK},
		{jump, api.OK},
		{of(api.OpHalt, 0, 0, 1), api.ErrForm},
		{of(api.OpJump, 1, 0, 0), api.ErrForm},
		{of(api.OpJump, 0, 1, 0), api.ErrRange},
		{of(api.OpJump, 0, 0, 1), api.ErrRange},
		{of(api.OpZero, 0, 0, 0), api.ErrShort},
		{of(api.OpZero, 0, 1, 0), api.ErrRange},
		{of(api.OpCall, 15, 0, 0), api.ErrShort},
		{of(api.OpCall, 16, 0, 0), api.ErrForm},
		{none, api.ErrForm},
	} {
		wantCheck(t, list(c.i), c.want, 0)
	}
}

// TestCheckRequirements has one line for each requirement of the table, with the bytes at which it begins to be broken.
func TestCheckRequirements(t *testing.T) {
	type line struct {
		i    api.Instr
		want api.Errno
	}
	lines := []line{
		{of(api.OpHalt, 0, 0, 0), api.OK},
		{of(api.OpHalt, 1, 0, 0), api.ErrForm},
		{of(api.OpHalt, 0, 1, 0), api.ErrForm},
		{of(api.OpHalt, 0, 0, 1), api.ErrForm},
		{of(api.OpSet, 7, 255, 255), api.OK},
		{of(api.OpSet, 8, 0, 0), api.ErrForm},
		{of(api.OpMove, 7, 7, 0), api.OK},
		{of(api.OpMove, 8, 7, 0), api.ErrForm},
		{of(api.OpMove, 7, 8, 0), api.ErrForm},
		{of(api.OpMove, 7, 7, 1), api.ErrForm},
		{of(api.OpLoad, 7, 7, 255), api.OK},
		{of(api.OpLoad, 8, 7, 255), api.ErrForm},
		{of(api.OpLoad, 7, 8, 255), api.ErrForm},
		{of(api.OpStore, 7, 7, 255), api.OK},
		{of(api.OpStore, 8, 7, 255), api.ErrForm},
		{of(api.OpStore, 7, 8, 255), api.ErrForm},
		{of(api.OpJump, 0, 2, 0), api.OK},
		{of(api.OpJump, 1, 2, 0), api.ErrForm},
		{of(api.OpJump, 0, 255, 255), api.ErrRange},
		{of(api.OpZero, 7, 2, 0), api.OK},
		{of(api.OpZero, 8, 2, 0), api.ErrForm},
		{of(api.OpZero, 7, 255, 255), api.ErrRange},
		{of(api.OpCall, 15, 0, 0), api.OK},
		{of(api.OpCall, 16, 0, 0), api.ErrForm},
		{of(api.OpCall, 15, 1, 0), api.ErrForm},
		{of(api.OpCall, 15, 0, 1), api.ErrForm},
	}
	for op := byte(api.OpAdd); op <= api.OpSame; op++ {
		lines = append(lines, line{of(op, 7, 7, 7), api.OK}, line{of(op, 8, 7, 7), api.ErrForm}, line{of(op, 7, 8, 7), api.ErrForm}, line{of(op, 7, 7, 8), api.ErrForm})
	}
	for op := api.OpCall + 1; op < 256; op++ {
		lines = append(lines, line{of(byte(op), 0, 0, 0), api.ErrForm})
	}
	for _, c := range lines {
		wantCheck(t, list(halt, c.i, halt), c.want, 1)
	}
}

// TestCheckBytes gives each Op each value of one byte, and all edges of its three bytes, and asks the table.
func TestCheckBytes(t *testing.T) {
	ask := func(i api.Instr) {
		l := list(halt, i, halt)
		want, at := wanted(l)
		wantCheck(t, l, want, at)
	}
	for op := range 256 {
		for b := range 256 {
			ask(of(byte(op), byte(b), 0, 0))
			ask(of(byte(op), 0, byte(b), 0))
			ask(of(byte(op), 0, 0, byte(b)))
		}
		for _, a := range edges {
			for _, b := range edges {
				for _, c := range edges {
					ask(of(byte(op), a, b, c))
				}
			}
		}
	}
}

// TestCheckAnything: the bytes that may be anything may be 255.
func TestCheckAnything(t *testing.T) {
	for _, i := range list(of(api.OpSet, 0, 255, 0), of(api.OpSet, 0, 0, 255), of(api.OpSet, 7, 255, 255), of(api.OpSet, 0, 0, 128), of(api.OpLoad, 0, 0, 255), of(api.OpStore, 0, 0, 255)) {
		for _, l := range [][]api.Instr{list(i, halt), list(halt, i, jump), with(halts(128), 77, i)} {
			wantCheck(t, l, api.OK, 0)
		}
	}
}

func TestCheckPlaces(t *testing.T) {
	for _, op := range []byte{api.OpJump, api.OpZero} {
		for _, n := range []int{2, 3, 10, 127, 128} {
			for at := range n - 1 {
				for _, number := range []int{0, at, at + 1, n - 2, n - 1} {
					wantCheck(t, with(halts(n), at, to(op, number)), api.OK, 0)
				}
				for _, number := range []int{n, n + 1, 255, 256, 256 + at, 256 + n - 1, 32767, 32768, 65535} {
					wantCheck(t, with(halts(n), at, to(op, number)), api.ErrRange, at)
				}
			}
		}
		wantCheck(t, with(halts(128), 5, of(op, 0, 127, 0)), api.OK, 0)
		wantCheck(t, with(halts(128), 5, of(op, 0, 127, 1)), api.ErrRange, 5)
		wantCheck(t, with(halts(128), 5, of(op, 0, 0, 1)), api.ErrRange, 5)
		wantCheck(t, with(halts(128), 5, of(op, 0, 0, 128)), api.ErrRange, 5)
		wantCheck(t, with(halts(128), 5, of(op, 0, 0, 255)), api.ErrRange, 5)
	}
	for _, n := range []int{1, 2, 128} {
		for _, number := range []int{0, n - 1} {
			wantCheck(t, with(halts(n), n-1, to(api.OpJump, number)), api.OK, 0)
			wantCheck(t, with(halts(n), n-1, to(api.OpZero, number)), api.ErrShort, n-1)
		}
		wantCheck(t, with(halts(n), n-1, to(api.OpJump, n)), api.ErrRange, n-1)
		wantCheck(t, with(halts(n), n-1, to(api.OpZero, n)), api.ErrRange, n-1)
	}
}

func TestCheckLast(t *testing.T) {
	for _, n := range []int{1, 2, 3, 128} {
		for op := range 256 {
			want := api.ErrShort
			switch {
			case op == api.OpHalt || op == api.OpJump:
				want = api.OK
			case op > api.OpCall:
				want = api.ErrForm
			}
			wantCheck(t, with(halts(n), n-1, of(byte(op), 0, 0, 0)), want, n-1)
		}
	}
	// Elsewhere each Op may stand.
	for op := range byte(api.OpCall + 1) {
		wantCheck(t, list(of(op, 0, 0, 0), halt), api.OK, 0)
		wantCheck(t, list(jump, of(op, 0, 0, 0), jump), api.OK, 0)
	}
}

func TestCheckFirstFault(t *testing.T) {
	set := of(api.OpSet, 0, 0, 0)
	ill := of(api.OpMove, 8, 0, 0)
	far := of(api.OpJump, 0, 99, 0)
	maybeFar := of(api.OpZero, 0, 0, 9)
	both := of(api.OpJump, 1, 99, 0)
	for _, c := range []struct {
		l    []api.Instr
		want api.Errno
		at   int
	}{
		{list(ill, far, halt), api.ErrForm, 0},
		{list(far, ill, halt), api.ErrRange, 0},
		{list(halt, ill, halt, maybeFar, halt), api.ErrForm, 1},
		{list(halt, maybeFar, halt, ill, halt), api.ErrRange, 1},
		{list(both, halt), api.ErrForm, 0},
		{list(of(api.OpZero, 8, 99, 0), halt), api.ErrForm, 0},
		{list(halt, both, far, ill, halt), api.ErrForm, 1},
		{list(halt, far, both, halt), api.ErrRange, 1},
		{list(halt, ill, set), api.ErrForm, 1},
		{list(halt, far, set), api.ErrRange, 1},
		{list(halt, both, set), api.ErrForm, 1},
		{list(halt, set, ill), api.ErrForm, 2},
		{list(halt, set, maybeFar), api.ErrRange, 2},
		{list(halt, set, far), api.ErrRange, 2},
		{list(set, set, of(api.OpSet, 8, 0, 0)), api.ErrForm, 2},
		{list(ill, ill, ill), api.ErrForm, 0},
		{list(far, far, far), api.ErrRange, 0},
		{list(set, set, set), api.ErrShort, 2},
	} {
		wantCheck(t, c.l, c.want, c.at)
	}
}

func TestCheckAnyList(t *testing.T) {
	r := rand.New(rand.NewSource(71))
	counts := map[api.Errno]int{}
	for range 60000 {
		l := anyList(r, r.Intn(7))
		want, at := wanted(l)
		wantCheck(t, l, want, at)
		counts[want]++
	}
	for range 2000 {
		l := anyProgram(r, 1+r.Intn(128))
		wantCheck(t, l, api.OK, 0)
		l[r.Intn(len(l))] = of(byte(r.Intn(20)), byte(r.Intn(20)), byte(r.Intn(256)), byte(r.Intn(256)))
		want, at := wanted(l)
		wantCheck(t, l, want, at)
		counts[want]++
	}
	for _, want := range []api.Errno{api.OK, api.ErrArg, api.ErrForm, api.ErrRange, api.ErrShort} {
		if counts[want] < 100 {
			t.Errorf("the code %d came up %d times only", want, counts[want])
		}
	}
}

// P7.2: Encode and Decode.

func TestEncode(t *testing.T) {
	for _, c := range []struct {
		l    []api.Instr
		want []byte
	}{
		{nil, nil},
		{list(), nil},
		{list(of(1, 2, 3, 4)), []byte{1, 2, 3, 4}},
		{list(of(1, 2, 3, 4), halt, of(17, 15, 0, 0)), []byte{1, 2, 3, 4, 0, 0, 0, 0, 17, 15, 0, 0}},
		{list(of(255, 255, 255, 255), of(254, 253, 252, 251)), []byte{255, 255, 255, 255, 254, 253, 252, 251}},
		{list(of(18, 8, 99, 255), of(api.OpSet, 0, 0, 0)), []byte{18, 8, 99, 255, 1, 0, 0, 0}},
	} {
		if got := code.Encode(c.l); !bytes.Equal(got, c.want) {
			t.Errorf("Encode(%v) = %v, not %v", c.l, got, c.want)
		}
	}
	if got := code.Encode(halts(1000)); !bytes.Equal(got, make([]byte, 4000)) {
		t.Errorf("Encode of 1000 Halts has %d bytes", len(got))
	}
}

func TestDecodeProgram(t *testing.T) {
	wantProgram(t, []byte{0, 0, 0, 0}, list(halt))
	wantProgram(t, []byte{15, 0, 0, 0}, list(jump))
	wantProgram(t, []byte{1, 7, 200, 255, 13, 1, 2, 255, 16, 3, 3, 0, 15, 0, 1, 0}, list(of(1, 7, 200, 255), of(13, 1, 2, 255), of(16, 3, 3, 0), of(15, 0, 1, 0)))
	wantProgram(t, make([]byte, 4*api.MaxCode), halts(128))
	long := with(halts(128), 127, of(api.OpJump, 0, 127, 0))
	wantProgram(t, append(make([]byte, 508), 15, 0, 127, 0), long)
}

func TestDecodeLengths(t *testing.T) {
	wantNoProgram(t, nil, "1@0<1@0")
	wantNoProgram(t, []byte{}, "1@0<1@0")
	for _, c := range []struct {
		length int
		text   string
	}{
		{1, "2@0"}, {2, "2@0"}, {3, "2@0"}, {5, "2@1"}, {6, "2@1"}, {7, "2@1"}, {9, "2@2"}, {11, "2@2"},
		{509, "2@127"}, {511, "2@127"}, {513, "2@128"}, {515, "2@128"}, {4001, "2@1000"}, {4002, "2@1000"}, {4003, "2@1000"},
		{516, "1@0<1@0"}, {520, "1@0<1@0"}, {1024, "1@0<1@0"}, {400000, "1@0<1@0"},
	} {
		wantNoProgram(t, make([]byte, c.length), c.text)
		// What the bytes are makes no difference then.
		wantNoProgram(t, bytes.Repeat([]byte{255}, c.length), c.text)
	}
	for n := 1; n <= 128; n++ {
		wantProgram(t, make([]byte, 4*n), halts(n))
	}
}

// TestDecodeFaults has each fault of Check at the first, at a middle and at the last instruction.
func TestDecodeFaults(t *testing.T) {
	wantNoProgram(t, []byte{18, 0, 0, 0, 0, 0, 0, 0}, "3@0<3@0")
	wantNoProgram(t, []byte{0, 0, 0, 0, 2, 0, 8, 0, 0, 0, 0, 0}, "3@4<3@1")
	wantNoProgram(t, []byte{0, 0, 0, 0, 0, 0, 0, 0, 0, 0, 0, 1}, "3@8<3@2")
	wantNoProgram(t, []byte{15, 0, 2, 0, 0, 0, 0, 0}, "4@0<4@0")
	wantNoProgram(t, []byte{0, 0, 0, 0, 16, 7, 3, 0, 0, 0, 0, 0}, "4@4<4@1")
	wantNoProgram(t, []byte{0, 0, 0, 0, 0, 0, 0, 0, 15, 0, 2, 1}, "4@8<4@2")
	wantNoProgram(t, []byte{1, 0, 0, 0}, "2@0<2@0")
	wantNoProgram(t, []byte{0, 0, 0, 0, 0, 0, 0, 0, 17, 0, 0, 0}, "2@8<2@2")
	wantNoProgram(t, append(make([]byte, 508), 1, 0, 0, 0), "2@508<2@127")
	wantNoProgram(t, append(make([]byte, 508), 15, 0, 128, 0), "4@508<4@127")
	wantNoProgram(t, append(make([]byte, 508), 255, 0, 0, 0), "3@508<3@127")
	for n := 1; n <= 128; n++ {
		for at := range n {
			b := make([]byte, 4*n)
			b[4*at+2] = 1
			_, err := code.Decode(b)
			wantFault(t, "Decode of a Halt with a B", err, api.ErrForm, 4*at, at)
			b[4*at] = api.OpJump
			b[4*at+3] = 1
			_, err = code.Decode(b)
			wantFault(t, "Decode of a far Jump", err, api.ErrRange, 4*at, at)
		}
		_, err := code.Decode(append(make([]byte, 4*n-4), api.OpSet, 0, 0, 0))
		wantFault(t, "Decode with a Set at the end", err, api.ErrShort, 4*n-4, n-1)
	}
}

// TestDecodeAnyBytes: Decode returns the program whose encoding the bytes are, or the fault of Check.
func TestDecodeAnyBytes(t *testing.T) {
	r := rand.New(rand.NewSource(72))
	programs := 0
	for range 40000 {
		l := anyList(r, r.Intn(5))
		if r.Intn(2) == 0 {
			l = anyProgram(r, 1+r.Intn(12))
		}
		var b []byte
		for _, i := range l {
			b = append(b, i.Op, i.A, i.B, i.C)
		}
		got, err := code.Decode(b)
		want, at := wanted(l)
		if want == api.OK {
			programs++
			wantProgram(t, b, l)
			continue
		}
		wantFault(t, "Decode", err, want, 4*at, at)
		if len(got) != 0 {
			t.Errorf("Decode(%v) = %v beside a fault", b, got)
		}
	}
	if programs < 1000 {
		t.Errorf("%d programs only", programs)
	}
}

// P7.3: Number, Next and Reached.

func TestNumber(t *testing.T) {
	for _, c := range []struct {
		b, c           byte
		signed, number int
	}{
		{0, 0, 0, 0},
		{5, 0, 5, 5},
		{255, 0, 255, 255},
		{0, 1, 256, 256},
		{1, 2, 513, 513},
		{0, 127, 32512, 32512},
		{255, 127, 32767, 32767},
		{0, 128, -32768, 32768},
		{1, 128, -32767, 32769},
		{255, 128, -32513, 33023},
		{0, 255, -256, 65280},
		{127, 255, -129, 65407},
		{254, 255, -2, 65534},
		{255, 255, -1, 65535},
	} {
		for op := range 256 {
			want := c.number
			if op == api.OpSet {
				want = c.signed
			}
			for _, a := range []byte{0, 7, 8, 255} {
				if got := code.Number(of(byte(op), a, c.b, c.c)); got != want {
					t.Errorf("Number(%d %d %d %d) = %d, not %d", op, a, c.b, c.c, got, want)
				}
			}
		}
	}
}

func TestNumberOfAll(t *testing.T) {
	for n := range 65536 {
		want := n
		if n >= 0x8000 {
			want -= 0x10000
		}
		if got := code.Number(to(api.OpSet, n)); got != want {
			t.Errorf("Number of a Set with %d = %d", n, got)
		}
		if got := code.Number(to(api.OpZero, n)); got != n {
			t.Errorf("Number of a Zero with %d = %d", n, got)
		}
	}
}

// TestNextNoIndex: what is no index has no successors, whatever the list.
func TestNextNoIndex(t *testing.T) {
	sets := slices.Repeat(list(of(api.OpSet, 0, 0, 0)), 4)
	zeros := slices.Repeat(list(of(api.OpZero, 0, 0, 0)), 4)
	jumps := slices.Repeat(list(jump), 4)
	for _, l := range [][]api.Instr{nil, list(), halts(4), sets, zeros, jumps, slices.Repeat(list(none), 4)} {
		for _, at := range []int{math.MinInt, math.MinInt + 1, math.MinInt32, -65536, -5, -2, -1, len(l), len(l) + 1, 65536, math.MaxInt32, math.MaxInt - 1, math.MaxInt} {
			wantNext(t, l, at)
		}
	}
	// Nor has what is behind the list, but still in its memory.
	wantNext(t, sets[:2], 2)
	wantNext(t, sets[:2], 3)
}

// TestNextOps has each Op at the first, at a middle and at the last index of five, with the number 3 and with the number 0.
func TestNextOps(t *testing.T) {
	for op := range 256 {
		for _, number := range []int{0, 3, 5, 259} {
			for _, at := range []int{0, 2, 4} {
				l := with(halts(5), at, to(byte(op), number))
				var want []int
				if op == api.OpZero || op != api.OpHalt && op != api.OpJump {
					want = append(want, at+1)
				}
				if op == api.OpZero || op == api.OpJump {
					want = append(want, number)
				}
				slices.Sort(want)
				want = slices.DeleteFunc(slices.Compact(want), func(n int) bool { return n > 4 })
				wantNext(t, l, at, want...)
			}
		}
	}
}

func TestNextZeroAndJump(t *testing.T) {
	zero := func(n int) api.Instr { return to(api.OpZero, n) }
	goes := func(n int) api.Instr { return to(api.OpJump, n) }
	for _, c := range []struct {
		at   int
		i    api.Instr
		want []int
	}{
		{0, zero(1), []int{1}},
		{0, zero(0), []int{0, 1}},
		{0, zero(2), []int{1, 2}},
		{0, zero(3), []int{1, 3}},
		{0, zero(4), []int{1}},
		{0, zero(256), []int{1}},
		{0, zero(65535), []int{1}},
		{1, zero(2), []int{2}},
		{1, zero(1), []int{1, 2}},
		{1, zero(0), []int{0, 2}},
		{1, zero(3), []int{2, 3}},
		{1, zero(4), []int{2}},
		{3, zero(4), nil},
		{3, zero(5), nil},
		{3, zero(3), []int{3}},
		{3, zero(0), []int{0}},
		{0, goes(0), []int{0}},
		{0, goes(1), []int{1}},
		{0, goes(3), []int{3}},
		{0, goes(4), nil},
		{0, goes(256), nil},
		{1, goes(1), []int{1}},
		{2, goes(1), []int{1}},
		{3, goes(3), []int{3}},
		{3, goes(0), []int{0}},
		{3, goes(4), nil},
		{3, goes(65535), nil},
	} {
		wantNext(t, with(halts(4), c.at, c.i), c.at, c.want...)
	}
}

// TestNextNoProgram: the Op alone counts, also of what is not well formed.
func TestNextNoProgram(t *testing.T) {
	l := list(of(api.OpHalt, 1, 2, 0), of(api.OpJump, 9, 3, 0), of(api.OpZero, 200, 0, 0), of(api.OpCall, 99, 1, 1), of(api.OpSet, 8, 1, 0), none, of(255, 255, 255, 255), of(api.OpAdd, 9, 9, 9))
	wantNext(t, l, 0)
	wantNext(t, l, 1, 3)
	wantNext(t, l, 2, 0, 3)
	wantNext(t, l, 3, 4)
	wantNext(t, l, 4, 5)
	wantNext(t, l, 5, 6)
	wantNext(t, l, 6, 7)
	wantNext(t, l, 7)
	// A list may be longer than a program, and its numbers as great as two bytes allow.
	long := halts(70000)
	long[300] = to(api.OpZero, 65535)
	long[65535] = to(api.OpJump, 256)
	long[69998] = none
	long[69999] = none
	wantLong := func(at int, want ...int) {
		t.Helper()
		if got := code.Next(long, at); !slices.Equal(got, want) {
			t.Errorf("Next(.., %d) = %v, not %v", at, got, want)
		}
	}
	wantLong(300, 301, 65535)
	wantLong(65535, 256)
	wantLong(69998, 69999)
	wantLong(69999)
	wantLong(70000)
}

func TestReached(t *testing.T) {
	set := of(api.OpSet, 0, 1, 0)
	goes := func(n int) api.Instr { return to(api.OpJump, n) }
	zero := func(n int) api.Instr { return to(api.OpZero, n) }
	for _, c := range []struct {
		l    []api.Instr
		want []int
	}{
		{nil, nil},
		{list(), nil},
		{list(halt), []int{0}},
		{list(jump), []int{0}},
		{list(none), []int{0}},
		{list(goes(1)), []int{0}},
		{list(set, halt), []int{0, 1}},
		{list(halt, halt), []int{0}},
		{list(goes(0), halt), []int{0}},
		{list(set, set, goes(0), halt), []int{0, 1, 2}},
		{list(set, zero(1), set, goes(1)), []int{0, 1, 2, 3}},
		{list(goes(3), set, halt, goes(1)), []int{0, 1, 2, 3}},
		{list(set, goes(4), halt, halt, zero(2), halt), []int{0, 1, 2, 4, 5}},
		{list(goes(4), halt, set, goes(1), goes(2)), []int{0, 1, 2, 3, 4}},
		{list(zero(3), halt, set, halt), []int{0, 1, 3}},
		{list(zero(1), halt, halt), []int{0, 1}},
		{list(zero(9), set, goes(9), halt), []int{0, 1, 2}},
		{list(none, of(255, 9, 9, 9), of(api.OpJump, 1, 4, 0), set, set), []int{0, 1, 2, 4}},
		{list(of(api.OpHalt, 1, 1, 1), set), []int{0}},
		{list(set, set, set), []int{0, 1, 2}},
	} {
		wantReached(t, c.l, c.want...)
	}
}

func TestReachedLong(t *testing.T) {
	for _, n := range []int{128, 129, 1000, 1 << 20} {
		count := func(l []api.Instr) int {
			got := code.Reached(l)
			if len(got) != n {
				t.Fatalf("Reached of %d instructions has %d", n, len(got))
			}
			sum := 0
			for _, is := range got {
				if is {
					sum++
				}
			}
			return sum
		}
		sets := slices.Repeat(list(of(api.OpSet, 0, 0, 0)), n)
		if got := count(sets); got != n {
			t.Errorf("of %d Sets %d are reached", n, got)
		}
		if got := count(with(sets, n/2, halt)); got != n/2+1 {
			t.Errorf("of %d Sets with a Halt in the middle %d are reached", n, got)
		}
		if got := count(slices.Repeat(list(of(api.OpZero, 0, 0, 0)), n)); got != n {
			t.Errorf("of %d Zeros %d are reached", n, got)
		}
		if got := count(halts(n)); got != 1 {
			t.Errorf("of %d Halts %d are reached", n, got)
		}
	}
	// Each jumps to the one ahead of it; the first one to the last.
	back := make([]api.Instr, 128)
	for at := range back {
		back[at] = to(api.OpJump, at-1)
	}
	back[0] = to(api.OpJump, 127)
	if got := code.Reached(back); len(got) != 128 || slices.Contains(got, false) {
		t.Errorf("Reached of 128 Jumps backwards = %v", got)
	}
	back[64] = halt
	if got := code.Reached(back); len(got) != 128 || !got[64] || !got[0] || slices.Contains(got[1:64], true) || slices.Contains(got[64:], false) {
		t.Errorf("Reached of 128 Jumps backwards, and a Halt = %v", got)
	}
}

// closed returns what can be reached, found by going over the whole list until nothing is added.
func closed(l []api.Instr) []bool {
	reached := make([]bool, len(l))
	if len(l) > 0 {
		reached[0] = true
	}
	for again := true; again; {
		again = false
		for at := range l {
			number := int(l[at].B) + 256*int(l[at].C)
			for n := range l {
				jumps := (l[at].Op == api.OpJump || l[at].Op == api.OpZero) && n == number
				goesOn := l[at].Op != api.OpJump && l[at].Op != api.OpHalt && n == at+1
				if reached[at] && (jumps || goesOn) && !reached[n] {
					reached[n] = true
					again = true
				}
			}
		}
	}
	return reached
}

func TestNextAndReachedOfAnyList(t *testing.T) {
	r := rand.New(rand.NewSource(73))
	for n := range 12 {
		for range 2000 {
			l := anyList(r, n)
			for at := range l {
				if r.Intn(2) == 0 {
					l[at] = to([]byte{api.OpHalt, api.OpJump, api.OpZero}[r.Intn(3)], r.Intn(n+2))
				}
			}
			if got, want := code.Reached(l), closed(l); !slices.Equal(got, want) {
				t.Errorf("Reached(%v) = %v, not %v", l, got, want)
			}
			for at := range l {
				next := code.Next(l, at)
				if !slices.IsSorted(next) || len(slices.Compact(slices.Clone(next))) != len(next) {
					t.Errorf("Next(%v, %d) = %v is not in ascending order, each once", l, at, next)
				}
			}
		}
	}
}

// P7.4: consequences.

func TestEachHasASuccessor(t *testing.T) {
	r := rand.New(rand.NewSource(74))
	alone := 0
	for range 5000 {
		l := anyProgram(r, 1+r.Intn(1+r.Intn(128)))
		if err := code.Check(l); err != nil {
			t.Fatalf("Check(%v): %s", l, fault.Text(err))
		}
		for at, i := range l {
			next := code.Next(l, at)
			if len(next) == 0 && i.Op != api.OpHalt || len(next) > 0 && i.Op == api.OpHalt {
				t.Errorf("in %v %v follow %d", l, next, at)
			}
			if slices.Equal(next, []int{at}) {
				alone++
				if i.Op != api.OpJump {
					t.Errorf("in %v only itself follows %d", l, at)
				}
			}
		}
	}
	if alone < 100 {
		t.Errorf("%d instructions are followed only by themselves", alone)
	}
}

func TestDecodeOfEncode(t *testing.T) {
	r := rand.New(rand.NewSource(75))
	for n := 1; n <= 128; n++ {
		for range 20 {
			l := anyProgram(r, n)
			b := code.Encode(l)
			wantProgram(t, b, l)
			got, _ := code.Decode(b)
			if again := code.Encode(got); !bytes.Equal(again, b) {
				t.Errorf("Encode of what %v encodes = %v", b, again)
			}
		}
	}
}

func TestEncodingsDiffer(t *testing.T) {
	r := rand.New(rand.NewSource(76))
	seen := map[string][]api.Instr{}
	add := func(l []api.Instr) {
		text := string(code.Encode(l))
		if other, ok := seen[text]; ok && !slices.Equal(l, other) {
			t.Errorf("%v and %v have the same encoding", l, other)
		}
		seen[text] = l
	}
	add(nil)
	for _, a := range edges {
		for _, b := range edges {
			add(list(of(a, b, 0, 0)))
			add(list(of(0, a, b, 0)))
			add(list(of(0, 0, a, b)))
			add(list(of(0, 0, 0, a), of(b, 0, 0, 0)))
			add(list(halt, of(0, a, 0, 0), of(0, 0, 0, b)))
		}
	}
	for range 5000 {
		add(anyList(r, r.Intn(6)))
	}
	for n := range 140 {
		add(halts(n))
	}
}

// R1 to R6: what is handed in, and what is returned.

// spoil changes the instructions, and all the room behind them.
func spoil(l []api.Instr) {
	l = l[:cap(l)]
	for at := range l {
		l[at] = of(l[at].Op^255, l[at].A^255, l[at].B^255, l[at].C^255)
	}
}

// TestArgumentsStay: no call changes its list, or what lies behind it in memory.
func TestArgumentsStay(t *testing.T) {
	r := rand.New(rand.NewSource(77))
	for range 500 {
		whole := anyList(r, 12)
		if r.Intn(2) == 0 {
			whole = append(anyProgram(r, 8), anyList(r, 4)...)
		}
		before := slices.Clone(whole)
		l := whole[:8]
		code.Check(l)
		code.Encode(l)
		code.Reached(l)
		for at := -1; at < 13; at++ {
			code.Next(l, at)
		}
		if !slices.Equal(whole, before) {
			t.Fatalf("%v became %v", before, whole)
		}
		bytesBefore := code.Encode(whole)
		b := slices.Clone(bytesBefore)
		code.Decode(b[:32])
		code.Decode(b[:31])
		if !bytes.Equal(b, bytesBefore) {
			t.Fatalf("%v became %v", bytesBefore, b)
		}
	}
}

// TestArgumentsNotKept: what was returned stays as it was, if what was handed in is changed.
func TestArgumentsNotKept(t *testing.T) {
	l := list(of(1, 2, 3, 4), of(api.OpZero, 0, 0, 0), halt)
	want := slices.Clone(l)
	b, next, reached := code.Encode(l), code.Next(l, 1), code.Reached(l)
	err := code.Check(with(l, 2, none))
	spoil(l)
	if !bytes.Equal(b, []byte{1, 2, 3, 4, 16, 0, 0, 0, 0, 0, 0, 0}) || !slices.Equal(next, []int{0, 2}) || !slices.Equal(reached, []bool{true, true, true}) || fault.Text(err) != "3@2" {
		t.Errorf("%v, %v, %v, %s", b, next, reached, fault.Text(err))
	}
	got, _ := code.Decode(b)
	wrong := append(slices.Clone(b), 99, 0, 0, 0)
	_, err = code.Decode(wrong)
	for at := range b {
		b[at] ^= 255
	}
	for at := range wrong {
		wrong[at] ^= 255
	}
	if !slices.Equal(got, want) || fault.Text(err) != "3@12<3@3" {
		t.Errorf("%v, %s", got, fault.Text(err))
	}
}

// TestResultsMayBeModified: what was returned has no effect on later calls, and none on what was handed in.
func TestResultsMayBeModified(t *testing.T) {
	l := list(of(1, 2, 3, 4), of(api.OpZero, 0, 0, 0), halt)
	content := []byte{1, 2, 3, 4, 16, 0, 0, 0, 0, 0, 0, 0}
	for range 3 {
		b := code.Encode(l)
		next := code.Next(l, 1)
		reached := code.Reached(l)
		got, err := code.Decode(content)
		if !bytes.Equal(b, content) || !slices.Equal(next, []int{0, 2}) || !slices.Equal(reached, []bool{true, true, true}) || !slices.Equal(got, l) || err != nil {
			t.Fatalf("%v, %v, %v, %v, %s", b, next, reached, got, fault.Text(err))
		}
		spoil(got)
		for at := range b[:cap(b)] {
			b[:cap(b)][at] ^= 255
		}
		for at := range next[:cap(next)] {
			next[:cap(next)][at] = -9
		}
		for at := range reached[:cap(reached)] {
			reached[:cap(reached)][at] = false
		}
	}
	// Two results are not the same memory.
	first, _ := code.Decode(content)
	second, _ := code.Decode(content)
	spoil(first)
	if !slices.Equal(second, l) {
		t.Errorf("the second list became %v", second)
	}
}

// TestNoPanic: whatever the arguments, each call returns.
func TestNoPanic(t *testing.T) {
	r := rand.New(rand.NewSource(78))
	for range 20000 {
		b := make([]byte, r.Intn(40))
		for at := range b {
			b[at] = byte(r.Intn(256)) >> r.Intn(8)
		}
		l, err := code.Decode(b)
		if err == nil && !bytes.Equal(code.Encode(l), b) || err != nil && len(l) > 0 {
			t.Errorf("Decode(%v) = %v, %s", b, l, fault.Text(err))
		}
		for len(b) >= 4 {
			l = append(l, of(b[0], b[1], b[2], b[3]))
			b = b[4:]
		}
		want, at := wanted(l)
		wantCheck(t, l, want, at)
		for at := -2; at < len(l)+2; at++ {
			code.Next(l, at)
		}
		if got := code.Reached(l); !slices.Equal(got, closed(l)) {
			t.Errorf("Reached(%v) = %v", l, got)
		}
	}
}

// Examples of the chapter.

func TestExamples(t *testing.T) {
	wantCheck(t, list(of(api.OpSet, 0, 5, 0), halt), api.OK, 0)
	wantCheck(t, list(to(api.OpJump, 0)), api.OK, 0)
	wantCheck(t, list(of(api.OpSet, 0, 5, 0)), api.ErrShort, 0)
	wantCheck(t, list(), api.ErrArg, 0)
	wantCheck(t, list(to(api.OpJump, 1)), api.ErrRange, 0)
	wantCheck(t, list(of(api.OpMove, 8, 0, 0), halt), api.ErrForm, 0)

	wantNoProgram(t, []byte{0, 0, 0, 0, 0}, "2@1")
	wantNoProgram(t, []byte{15, 0, 1, 0}, "4@0<4@0")

	if got := code.Number(of(api.OpSet, 0, 255, 255)); got != -1 {
		t.Errorf("Number(Set 0 255 255) = %d", got)
	}
	if got := code.Number(of(api.OpJump, 0, 255, 255)); got != 65535 {
		t.Errorf("Number(Jump 0 255 255) = %d", got)
	}

	wantNext(t, list(to(api.OpZero, 0), halt), 0, 0, 1)
}
