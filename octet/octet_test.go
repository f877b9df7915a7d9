package octet_test

import (
	"bytes"
	"errors"
	"math"
	"slices"
	"strconv"
	"strings"
	"testing"

	"nacelle/api"
	"nacelle/fault"
	"nacelle/octet"
)

// noSizes are numbers that are no size of a number.
var noSizes = []int{0, -1, -8, 9, 10, 16, 256, 257, 1 << 32, 1<<32 + 1, math.MaxInt, math.MinInt}

// state is what a reader tells without being changed.
type state struct {
	at, left int
	end      string
}

func stateOf(r *octet.Reader) state {
	return state{r.At(), r.Left(), fault.Text(r.End())}
}

// wantState fails the test, unless the reader tells this.
func wantState(t *testing.T, name string, r *octet.Reader, want state) {
	t.Helper()
	if got := stateOf(r); got != want {
		t.Errorf("%s: {at, left, end} = %v, not %v", name, got, want)
	}
}

// count returns n bytes 1, 2, 3, ..
func count(n int) []byte {
	b := make([]byte, n)
	for i := range b {
		b[i] = byte(i + 1)
	}
	return b
}

// P2.1: Put, Get, Text.

func TestPutWritesTheLowBits(t *testing.T) {
	for _, c := range []struct {
		n    uint64
		size int
		want []byte
	}{
		{258, 2, []byte{2, 1}},
		{258, 1, []byte{2}},
		{0, 1, []byte{0}},
		{0, 8, make([]byte, 8)},
		{255, 1, []byte{255}},
		{256, 1, []byte{0}},
		{65535, 2, []byte{255, 255}},
		{1, 3, []byte{1, 0, 0}},
		{0x0807060504030201, 1, count(1)},
		{0x0807060504030201, 2, count(2)},
		{0x0807060504030201, 3, count(3)},
		{0x0807060504030201, 4, count(4)},
		{0x0807060504030201, 5, count(5)},
		{0x0807060504030201, 6, count(6)},
		{0x0807060504030201, 7, count(7)},
		{0x0807060504030201, 8, count(8)},
		{math.MaxUint64, 8, bytes.Repeat([]byte{255}, 8)},
		{1 << 63, 8, []byte{0, 0, 0, 0, 0, 0, 0, 128}},
		{1 << 63, 7, make([]byte, 7)},
	} {
		if got := octet.Put(c.n, c.size); !bytes.Equal(got, c.want) {
			t.Errorf("Put(%d, %d) = %v, not %v", c.n, c.size, got, c.want)
		}
	}
}

func TestPutOfNoSizeIsNone(t *testing.T) {
	for _, size := range noSizes {
		for _, n := range []uint64{0, 1, math.MaxUint64} {
			if got := octet.Put(n, size); len(got) != 0 {
				t.Errorf("Put(%d, %d) = %v", n, size, got)
			}
		}
	}
}

func TestGet(t *testing.T) {
	for _, c := range []struct {
		b    []byte
		n    uint64
		code api.Errno
	}{
		{[]byte{2, 1}, 258, api.OK},
		{[]byte{0}, 0, api.OK},
		{[]byte{255}, 255, api.OK},
		{[]byte{1, 0, 0}, 1, api.OK},
		{[]byte{0, 0, 128}, 0x800000, api.OK},
		{[]byte{0, 0, 0, 128}, 0x80000000, api.OK},
		{count(5), 0x0504030201, api.OK},
		{count(7), 0x07060504030201, api.OK},
		{count(8), 0x0807060504030201, api.OK},
		{bytes.Repeat([]byte{255}, 8), math.MaxUint64, api.OK},
		{make([]byte, 8), 0, api.OK},
		{nil, 0, api.ErrArg},
		{[]byte{}, 0, api.ErrArg},
		{count(9), 0, api.ErrArg},
		{append(count(8), 0), 0, api.ErrArg},
		{count(200), 0, api.ErrArg},
		{make([]byte, 257), 0, api.ErrArg},
	} {
		if n, code := octet.Get(c.b); n != c.n || code != c.code {
			t.Errorf("Get(%v) = %d, %d, not %d, %d", c.b, n, code, c.n, c.code)
		}
	}
}

func TestTextOfAnyLength(t *testing.T) {
	for _, c := range []struct {
		s    string
		want []byte
	}{
		{"", []byte{0}},
		{"ab", []byte{2, 97, 98}},
		{"\x00", []byte{1, 0}},
		{"\xff\xfe", []byte{2, 255, 254}},
		{"é", []byte{2, 0xc3, 0xa9}},
		{strings.Repeat("x", 254), append([]byte{254}, bytes.Repeat([]byte{'x'}, 254)...)},
		{strings.Repeat("x", 255), append([]byte{255}, bytes.Repeat([]byte{'x'}, 255)...)},
		{strings.Repeat("x", 256), nil},
		{strings.Repeat("x", 257), nil},
		{strings.Repeat("é", 128), nil},
		{strings.Repeat("x", 1<<16), nil},
	} {
		if got := octet.Text(c.s); !bytes.Equal(got, c.want) {
			t.Errorf("Text of %d bytes = %v, not %v", len(c.s), got, c.want)
		}
	}
}

// P2.2: Num, Text, Bytes, Must.

func TestNumOfEachSize(t *testing.T) {
	for size := 1; size <= 8; size++ {
		want, _ := octet.Get(count(size))
		r := octet.Read(count(8))
		if got := r.Num(size); got != want {
			t.Errorf("Num(%d) = %d, not %d", size, got, want)
		}
		if r.At() != size || r.Left() != 8-size {
			t.Errorf("after Num(%d): at %d, left %d", size, r.At(), r.Left())
		}
	}
}

func TestNumOfNoSize(t *testing.T) {
	for _, size := range noSizes {
		r := octet.Read(count(20))
		r.Num(3)
		if got := r.Num(size); got != 0 {
			t.Errorf("Num(%d) = %d", size, got)
		}
		wantState(t, "Num of no size", r, state{3, 17, "1@3"})
	}
}

func TestNumOfNoSizeAtTheEnd(t *testing.T) {
	for _, size := range noSizes {
		r := octet.Read(count(2))
		r.Num(2)
		r.Num(size)
		wantState(t, "ErrArg comes ahead of ErrShort", r, state{2, 0, "1@2"})
	}
}

func TestNumThatIsCutOff(t *testing.T) {
	for size := 1; size <= 8; size++ {
		for left := range size {
			r := octet.Read(count(2 + left))
			r.Num(2)
			if got := r.Num(size); got != 0 {
				t.Errorf("Num(%d) of %d bytes = %d", size, left, got)
			}
			wantState(t, "Num that is cut off", r, state{2, left, "2@2"})
		}
	}
}

func TestTextsAreRead(t *testing.T) {
	for _, n := range []int{0, 1, 2, 127, 128, 254, 255} {
		s := strings.Repeat("\xe9", n)
		r := octet.Read(append(append([]byte{9}, octet.Text(s)...), 7))
		r.Num(1)
		if got := r.Text(); got != s {
			t.Errorf("a text of %d bytes = %q", n, got)
		}
		wantState(t, "after a text", r, state{2 + n, 1, "7@" + strconv.Itoa(2+n)})
		if got := r.Num(1); got != 7 || r.End() != nil {
			t.Errorf("after a text of %d bytes: %d, %v", n, got, r.End())
		}
	}
}

func TestTextThatEndsWithTheBytes(t *testing.T) {
	for _, n := range []int{0, 1, 255} {
		r := octet.Read(octet.Text(strings.Repeat("z", n)))
		if got := r.Text(); len(got) != n || r.End() != nil || r.At() != n+1 || r.Left() != 0 {
			t.Errorf("a text of %d bytes: %q, %v", n, got, stateOf(r))
		}
	}
}

func TestTextThatIsCutOff(t *testing.T) {
	for _, b := range [][]byte{
		{5},
		{5, 1},
		{5, 3, 97, 98},
		{5, 255},
		append([]byte{5, 255}, make([]byte, 254)...),
	} {
		r := octet.Read(b)
		r.Num(1)
		if got := r.Text(); got != "" {
			t.Errorf("Text of %v = %q", b, got)
		}
		wantState(t, "Text that is cut off", r, state{1, len(b) - 1, "2@1"})
	}
}

func TestTextOfNothing(t *testing.T) {
	for _, b := range [][]byte{nil, {}} {
		r := octet.Read(b)
		if got := r.Text(); got != "" {
			t.Errorf("Text of nothing = %q", got)
		}
		wantState(t, "Text of nothing", r, state{0, 0, "2@0"})
	}
}

func TestBytesAreRead(t *testing.T) {
	for _, n := range []int{0, 1, 8, 9, 299, 300} {
		r := octet.Read(append([]byte{0}, count(300)...))
		r.Num(1)
		if got := r.Bytes(n); !bytes.Equal(got, count(n)) {
			t.Errorf("Bytes(%d) = %v", n, got)
		}
		if r.At() != 1+n || r.Left() != 300-n {
			t.Errorf("after Bytes(%d): at %d, left %d", n, r.At(), r.Left())
		}
	}
}

func TestNoBytesAtTheEnd(t *testing.T) {
	r := octet.Read(count(1))
	r.Num(1)
	if got := r.Bytes(0); len(got) != 0 {
		t.Errorf("Bytes(0) = %v", got)
	}
	wantState(t, "Bytes(0) at the end", r, state{1, 0, ""})
}

func TestNegativeBytes(t *testing.T) {
	for _, n := range []int{-1, -2, -4, -1 << 32, math.MinInt} {
		for _, before := range []int{0, 2, 4} {
			r := octet.Read(count(4))
			r.Bytes(before)
			if got := r.Bytes(n); len(got) != 0 {
				t.Errorf("Bytes(%d) = %v", n, got)
			}
			wantState(t, "Bytes of a negative count", r, state{before, 4 - before, "1@" + strconv.Itoa(before)})
		}
	}
}

func TestBytesThatAreCutOff(t *testing.T) {
	for _, n := range []int{3, 4, 256, 1 << 32, 1<<32 + 1, math.MaxInt} {
		r := octet.Read(count(4))
		r.Bytes(2)
		if got := r.Bytes(n); len(got) != 0 {
			t.Errorf("Bytes(%d) = %v", n, got)
		}
		wantState(t, "Bytes that are cut off", r, state{2, 2, "2@2"})
	}
}

func TestMustOfWhatIsSo(t *testing.T) {
	for _, code := range []api.Errno{api.OK, api.ErrSum, -1} {
		r := octet.Read(count(2))
		r.Num(1)
		r.Must(true, code)
		wantState(t, "Must(true)", r, state{1, 1, "7@1"})
		if got := r.Num(1); got != 2 || r.End() != nil {
			t.Errorf("after Must(true, %d): %d, %v", code, got, r.End())
		}
	}
}

func TestMustOfWhatIsNotSo(t *testing.T) {
	for _, c := range []struct {
		code api.Errno
		end  string
	}{
		{api.OK, "3@1"},
		{api.ErrForm, "3@1"},
		{api.ErrArg, "1@1"},
		{api.ErrExtra, "7@1"},
		{api.ErrHeld, "172@1"},
		{-5, "-5@1"},
		{math.MaxInt, strconv.Itoa(math.MaxInt) + "@1"},
	} {
		r := octet.Read(count(4))
		r.Num(1)
		r.Must(false, c.code)
		wantState(t, "Must(false)", r, state{1, 3, c.end})
	}
}

func TestMustAtTheEnd(t *testing.T) {
	r := octet.Read(nil)
	r.Must(true, api.OK)
	wantState(t, "Must(true, OK) of nothing", r, state{0, 0, ""})
	r.Must(false, api.OK)
	wantState(t, "Must(false, OK) of nothing", r, state{0, 0, "3@0"})
}

// failures are ways to fail at offset 1 of the bytes 9 5 3 4, and the fault that is kept.
var failures = []struct {
	name string
	fail func(r *octet.Reader)
	end  string
}{
	{"Num(9)", func(r *octet.Reader) { r.Num(9) }, "1@1"},
	{"Num(4)", func(r *octet.Reader) { r.Num(4) }, "2@1"},
	{"Text()", func(r *octet.Reader) { r.Text() }, "2@1"},
	{"Bytes(-1)", func(r *octet.Reader) { r.Bytes(-1) }, "1@1"},
	{"Bytes(4)", func(r *octet.Reader) { r.Bytes(4) }, "2@1"},
	{"Must(false, ErrSum)", func(r *octet.Reader) { r.Must(false, api.ErrSum) }, "8@1"},
	{"Must(false, OK)", func(r *octet.Reader) { r.Must(false, api.OK) }, "3@1"},
}

func TestFailedReaderIsAskedAgain(t *testing.T) {
	for _, f := range failures {
		r := octet.Read([]byte{9, 5, 3, 4})
		r.Num(1)
		f.fail(r)
		for range 2 {
			for _, size := range []int{1, 2, 3, 4, 8, 0, 9, -1} {
				if got := r.Num(size); got != 0 {
					t.Errorf("%s, then Num(%d) = %d", f.name, size, got)
				}
				wantState(t, f.name+", then Num", r, state{1, 3, f.end})
			}
			for _, n := range []int{0, 1, 3, 4, -1, math.MaxInt, math.MinInt} {
				if got := r.Bytes(n); len(got) != 0 {
					t.Errorf("%s, then Bytes(%d) = %v", f.name, n, got)
				}
				wantState(t, f.name+", then Bytes", r, state{1, 3, f.end})
			}
			for _, g := range failures {
				g.fail(r)
				wantState(t, f.name+", then "+g.name, r, state{1, 3, f.end})
			}
			r.Must(true, api.OK)
			r.Must(true, api.ErrNone)
			wantState(t, f.name+", then Must(true)", r, state{1, 3, f.end})
		}
	}
}

func TestFailedReaderReadsNoText(t *testing.T) {
	for _, b := range [][]byte{{2, 97, 98}, {0}, {}} {
		r := octet.Read(b)
		r.Must(false, api.ErrNone)
		if got := r.Text(); got != "" {
			t.Errorf("a failed reader reads %q", got)
		}
		wantState(t, "Text of a failed reader", r, state{0, len(b), "6@0"})
	}
}

// P2.3: At, Left, End.

func TestAtAndLeftFollowTheReads(t *testing.T) {
	r := octet.Read([]byte{1, 0, 2, 97, 98, 7, 8, 9})
	wantState(t, "at first", r, state{0, 8, "7@0"})
	r.Num(2)
	wantState(t, "after Num(2)", r, state{2, 6, "7@2"})
	r.Text()
	wantState(t, "after Text()", r, state{5, 3, "7@5"})
	r.Bytes(2)
	wantState(t, "after Bytes(2)", r, state{7, 1, "7@7"})
	r.Bytes(1)
	wantState(t, "after Bytes(1)", r, state{8, 0, ""})
}

func TestEndOfNothing(t *testing.T) {
	for _, b := range [][]byte{nil, {}} {
		r := octet.Read(b)
		wantState(t, "nothing to read", r, state{0, 0, ""})
		if err := r.End(); err != nil {
			t.Errorf("End of nothing = %v", err)
		}
	}
}

func TestEndAtTheEndIsNoFailure(t *testing.T) {
	r := octet.Read(count(1))
	r.Num(1)
	for range 3 {
		if err := r.End(); err != nil {
			t.Errorf("End at the end = %v", err)
		}
	}
	r.Num(1)
	wantState(t, "read past the end", r, state{1, 0, "2@1"})
}

func TestEndChangesNothing(t *testing.T) {
	r := octet.Read([]byte{4, 1, 97, 5, 6})
	r.End()
	if got := r.Num(1); got != 4 {
		t.Errorf("after End, Num(1) = %d", got)
	}
	r.End()
	if got := r.Text(); got != "a" {
		t.Errorf("after End, Text() = %q", got)
	}
	r.End()
	if got := r.Bytes(2); !bytes.Equal(got, []byte{5, 6}) || r.End() != nil {
		t.Errorf("after End, Bytes(2) = %v, %v", got, r.End())
	}
}

func TestEndIsEqualEachTime(t *testing.T) {
	r := octet.Read(count(4))
	r.Num(1)
	for range 3 {
		wantState(t, "bytes are left", r, state{1, 3, "7@1"})
	}
	r.Must(false, api.ErrSum)
	for range 3 {
		wantState(t, "a kept fault", r, state{1, 3, "8@1"})
	}
}

func TestErrExtraIsNotKept(t *testing.T) {
	r := octet.Read(count(4))
	r.End()
	r.Must(false, api.ErrSum)
	wantState(t, "End, then Must", r, state{0, 4, "8@0"})
}

func TestEndIsAFaultWithoutACause(t *testing.T) {
	extra, short := octet.Read(count(1)), octet.Read(nil)
	short.Num(1)
	for _, r := range []*octet.Reader{extra, short} {
		var f *fault.Fault
		if err := r.End(); !errors.As(err, &f) || f.Cause != nil || error(f) != err {
			t.Errorf("End = %v", err)
		}
	}
}

func TestReadersAreIndependent(t *testing.T) {
	b := count(4)
	one, two := octet.Read(b), octet.Read(b)
	one.Num(2)
	one.Must(false, api.ErrSum)
	wantState(t, "another reader of the same bytes", two, state{0, 4, "7@0"})
	if got := two.Num(4); got != 0x04030201 {
		t.Errorf("another reader of the same bytes: %d", got)
	}
}

// P2.4: what was encoded is decoded, and no memory is shared.

func TestNumbersComeBack(t *testing.T) {
	for _, n := range []uint64{0, 1, 127, 128, 255, 256, 65535, 1 << 31, 1<<32 - 1, 1 << 32, 0x0123456789abcdef, 1 << 63, math.MaxUint64} {
		for size := 1; size <= 8; size++ {
			want := n & (math.MaxUint64 >> (64 - 8*size))
			b := octet.Put(n, size)
			if got, code := octet.Get(b); got != want || code != api.OK {
				t.Errorf("Get(Put(%d, %d)) = %d, %d", n, size, got, code)
			}
			r := octet.Read(b)
			if got := r.Num(size); got != want || r.End() != nil {
				t.Errorf("Num(%d) of Put(%d, %d) = %d, %v", size, n, size, got, r.End())
			}
		}
	}
}

func TestTextsOfEachLengthComeBack(t *testing.T) {
	var b []byte
	for n := range api.MaxText + 1 {
		b = append(b, octet.Text(strings.Repeat(string([]byte{byte(n)}), n))...)
	}
	r := octet.Read(b)
	for n := range api.MaxText + 1 {
		if got := r.Text(); got != strings.Repeat(string([]byte{byte(n)}), n) {
			t.Fatalf("the text of %d bytes = %q", n, got)
		}
	}
	if err := r.End(); err != nil {
		t.Error(err)
	}
}

func TestAMixComesBack(t *testing.T) {
	b := slices.Concat(octet.Put(7, 1), octet.Text("hi"), octet.Put(math.MaxUint64, 8), octet.Text(""), []byte{1, 2, 3}, octet.Put(258, 2))
	r := octet.Read(b)
	if r.Num(1) != 7 || r.Text() != "hi" || r.Num(8) != math.MaxUint64 || r.Text() != "" || !bytes.Equal(r.Bytes(3), count(3)) || r.Num(2) != 258 {
		t.Error("a mix of numbers, texts and bytes")
	}
	if err := r.End(); err != nil {
		t.Error(err)
	}
}

func TestBytesMayBeModifiedAfterRead(t *testing.T) {
	b := []byte{7, 2, 97, 98, 1, 2, 3}
	r := octet.Read(b)
	clear(b)
	first := r.Num(1)
	for i := range b {
		b[i] = 255
	}
	if text, rest := r.Text(), r.Bytes(3); first != 7 || text != "ab" || !bytes.Equal(rest, count(3)) {
		t.Errorf("read: %d, %q, %v", first, text, rest)
	}
}

func TestArgumentsAreNotModified(t *testing.T) {
	b := append(make([]byte, 0, 64), 7, 2, 97, 98, 1, 2, 3)
	before := bytes.Clone(b[:cap(b)])
	octet.Get(b)
	r := octet.Read(b)
	r.Num(1)
	r.Text()
	got := r.Bytes(3)
	got[0] = 200
	_ = append(got, 99)
	r.Num(1)
	if !bytes.Equal(b[:cap(b)], before) {
		t.Errorf("the bytes have changed: %v", b[:cap(b)])
	}
}

func TestWhatIsReadIsNewMemory(t *testing.T) {
	r := octet.Read([]byte{1, 2, 3, 4, 2, 97, 98})
	one := r.Bytes(2)
	_ = append(one, 77, 78)
	one[0] = 99
	two := r.Bytes(2)
	if !bytes.Equal(two, []byte{3, 4}) {
		t.Errorf("append has reached the bytes that follow: %v", two)
	}
	_ = append(two, 77, 78, 79)
	if got := r.Text(); got != "ab" {
		t.Errorf("append has reached the text that follows: %q", got)
	}
	if !bytes.Equal(one, []byte{99, 2}) {
		t.Errorf("an earlier result has changed: %v", one)
	}
}

func TestWhatIsEncodedIsNewMemory(t *testing.T) {
	for _, encode := range []func() []byte{
		func() []byte { return octet.Put(258, 2) },
		func() []byte { return octet.Text("ab") },
	} {
		one, two := encode(), encode()
		want := bytes.Clone(two)
		clear(one)
		_ = append(one, 1, 2, 3)
		if !bytes.Equal(two, want) || !bytes.Equal(encode(), want) {
			t.Errorf("another result has changed: %v", two)
		}
	}
}

// Examples of the chapter.

func TestExamples(t *testing.T) {
	if b := octet.Put(258, 2); !bytes.Equal(b, []byte{2, 1}) {
		t.Errorf("Put(258, 2) = %v", b)
	}
	if b := octet.Put(258, 1); !bytes.Equal(b, []byte{2}) {
		t.Errorf("Put(258, 1) = %v", b)
	}
	if b := octet.Put(1, 9); len(b) != 0 {
		t.Errorf("Put(1, 9) = %v", b)
	}
	if n, code := octet.Get([]byte{2, 1}); n != 258 || code != api.OK {
		t.Errorf("Get(2 1) = %d, %d", n, code)
	}
	if n, code := octet.Get(nil); n != 0 || code != api.ErrArg {
		t.Errorf("Get() = %d, %d", n, code)
	}
	if b := octet.Text("ab"); !bytes.Equal(b, []byte{2, 97, 98}) {
		t.Errorf("Text(ab) = %v", b)
	}
	r := octet.Read([]byte{3, 97, 98})
	if s := r.Text(); s != "" || r.At() != 0 || r.Num(1) != 0 || fault.Text(r.End()) != "2@0" {
		t.Errorf("Read(3 97 98): %q, %v", s, stateOf(r))
	}
	r = octet.Read([]byte{1, 0, 9})
	if n := r.Num(2); n != 1 || fault.Text(r.End()) != "7@2" {
		t.Errorf("Read(1 0 9): %d, %v", n, stateOf(r))
	}
}
