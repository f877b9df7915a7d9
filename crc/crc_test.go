package crc_test

import (
	"bytes"
	"math"
	"math/bits"
	"slices"
	"strings"
	"testing"

	"nacelle/api"
	"nacelle/crc"
)

// polynomial is what the chapter xors the register with.
const polynomial = 0x82f63b78

// sums are checksums to go on from: 0, all ones, and others.
var sums = []uint32{0, 1, 2, 0x80000000, 0x7fffffff, math.MaxUint32 - 1, math.MaxUint32, polynomial, ^uint32(polynomial), 0xe3069283, 0x12345678}

// checksum is the checksum of bytes, bit by bit as the chapter's words tell it.
func checksum(b []byte) uint32 {
	register := uint32(0xffffffff)
	for _, c := range b {
		register ^= uint32(c)
		for range 8 {
			out := register & 1
			register >>= 1
			if out == 1 {
				register ^= polynomial
			}
		}
	}
	return ^register
}

// summedTo returns four bytes whose checksum is sum: the register is run backwards.
func summedTo(sum uint32) []byte {
	register := ^sum
	for range 32 {
		top := register >> 31
		if top == 1 {
			register ^= polynomial
		}
		register = register<<1 | top
	}
	return number(^register)
}

// number returns the four bytes of n, the least significant one first.
func number(n uint32) []byte {
	return []byte{byte(n), byte(n >> 8), byte(n >> 16), byte(n >> 24)}
}

// mixed returns n bytes of all kinds, others for another seed.
func mixed(n int, seed uint32) []byte {
	b := make([]byte, n)
	for i := range b {
		seed = seed*1664525 + 1013904223
		b[i] = byte(seed >> 24)
	}
	return b
}

// count returns n bytes 0, 1, 2, ..
func count(n int) []byte {
	b := make([]byte, n)
	for i := range b {
		b[i] = byte(i)
	}
	return b
}

// wantRefused fails the test, unless Open returns this code and nothing else.
func wantRefused(t *testing.T, b []byte, want api.Errno) {
	t.Helper()
	if got, code := crc.Open(b); len(got) != 0 || code != want {
		t.Errorf("Open(%v) = %v, %d, not %d", b, got, code, want)
	}
}

// wantOpened fails the test, unless Open returns these bytes.
func wantOpened(t *testing.T, b, want []byte) {
	t.Helper()
	if got, code := crc.Open(b); !bytes.Equal(got, want) || code != api.OK {
		t.Errorf("Open(%v) = %v, %d, not %v", b, got, code, want)
	}
}

// P3.1: Of, On.

func TestOfWhatIsPublished(t *testing.T) {
	down := count(32)
	slices.Reverse(down)
	for _, c := range []struct {
		b    []byte
		want uint32
	}{
		{[]byte{}, 0},
		{[]byte("a"), 0xc1d04330},
		{[]byte("abc"), 0x364b3fb7},
		{[]byte("123456789"), 0xe3069283},
		{[]byte("The quick brown fox jumps over the lazy dog"), 0x22620404},
		{make([]byte, 32), 0x8a9136aa},
		{bytes.Repeat([]byte{255}, 32), 0x62a8ab43},
		{count(32), 0x46dd794e},
		{down, 0x113fdb5c},
	} {
		if got := crc.Of(c.b); got != c.want {
			t.Errorf("Of(%v) = %08x, not %08x", c.b, got, c.want)
		}
	}
}

func TestOfNothing(t *testing.T) {
	for _, b := range [][]byte{nil, {}, make([]byte, 0, 8), count(8)[8:]} {
		if got := crc.Of(b); got != 0 {
			t.Errorf("Of() = %08x", got)
		}
	}
}

func TestOfEachByte(t *testing.T) {
	for c := range 256 {
		for _, b := range [][]byte{{byte(c)}, {0, byte(c)}, {byte(c), 0}, {255, byte(c), 255}} {
			if got, want := crc.Of(b), checksum(b); got != want {
				t.Errorf("Of(%v) = %08x, not %08x", b, got, want)
			}
		}
	}
}

func TestOfEachLength(t *testing.T) {
	for n := range 300 {
		for _, b := range [][]byte{mixed(n, 1), make([]byte, n), bytes.Repeat([]byte{255}, n)} {
			if got, want := crc.Of(b), checksum(b); got != want {
				t.Errorf("Of of %d bytes = %08x, not %08x", n, got, want)
			}
		}
	}
}

func TestOfManyBytes(t *testing.T) {
	for _, n := range []int{1<<16 - 1, 1 << 16, 1<<16 + 1, 1 << 20} {
		b := mixed(n, 7)
		if got, want := crc.Of(b), checksum(b); got != want {
			t.Errorf("Of of %d bytes = %08x, not %08x", n, got, want)
		}
	}
}

func TestOfTellsLengthsAndOrdersApart(t *testing.T) {
	seen := map[uint32]bool{}
	for _, s := range []string{"\x00", "\x00\x00", "\x00\x00\x00", "ab", "ba", "\x00ab", "ab\x00", strings.Repeat("\x00", 64)} {
		sum := crc.Of([]byte(s))
		if seen[sum] {
			t.Errorf("Of(%q) = %08x, which is that of other bytes", s, sum)
		}
		seen[sum] = true
	}
}

func TestOnGoesOnFromAnySum(t *testing.T) {
	for _, sum := range sums {
		before := summedTo(sum)
		if got := crc.Of(before); got != sum {
			t.Fatalf("Of(%v) = %08x, not %08x", before, got, sum)
		}
		for _, n := range []int{1, 2, 3, 4, 5, 64, 255} {
			b := mixed(n, sum)
			if got, want := crc.On(sum, b), checksum(slices.Concat(before, b)); got != want {
				t.Errorf("On(%08x, %v) = %08x, not %08x", sum, b, got, want)
			}
		}
	}
}

func TestOnWithNothingStays(t *testing.T) {
	for _, sum := range sums {
		for _, b := range [][]byte{nil, {}, make([]byte, 0, 8)} {
			if got := crc.On(sum, b); got != sum {
				t.Errorf("On(%08x) = %08x", sum, got)
			}
		}
	}
}

func TestOnFromTheSumOfNothing(t *testing.T) {
	for n := range 20 {
		b := mixed(n, 3)
		if got, want := crc.On(0, b), checksum(b); got != want {
			t.Errorf("On(0, %v) = %08x, not %08x", b, got, want)
		}
	}
}

func TestOnOfEachByte(t *testing.T) {
	for c := range 256 {
		b := []byte{byte(c)}
		if got, want := crc.On(checksum([]byte("nacelle")), b), checksum(append([]byte("nacelle"), b...)); got != want {
			t.Errorf("On of %v = %08x, not %08x", b, got, want)
		}
	}
}

func TestOneCallLeavesNothingForTheNext(t *testing.T) {
	for range 3 {
		crc.On(0x12345678, count(9))
		wantRefused(t, count(9), api.ErrSum)
		if got := crc.Of([]byte("123456789")); got != 0xe3069283 {
			t.Errorf("Of after other calls = %08x", got)
		}
	}
}

// P3.2: Seal, Open.

func TestSealAppendsTheChecksum(t *testing.T) {
	for n := range 100 {
		b := mixed(n, 11)
		want := slices.Concat(b, number(checksum(b)))
		if got := crc.Seal(b); !bytes.Equal(got, want) {
			t.Errorf("Seal(%v) = %v, not %v", b, got, want)
		}
	}
}

func TestSealWritesTheLowestByteFirst(t *testing.T) {
	for _, c := range []struct{ b, sealed string }{
		{"", "\x00\x00\x00\x00"},
		{"a", "a\x30\x43\xd0\xc1"},
		{"abc", "abc\xb7\x3f\x4b\x36"},
		{"123456789", "123456789\x83\x92\x06\xe3"},
	} {
		if got := crc.Seal([]byte(c.b)); string(got) != c.sealed {
			t.Errorf("Seal(%q) = %q, not %q", c.b, got, c.sealed)
		}
		wantOpened(t, []byte(c.sealed), []byte(c.b))
	}
}

func TestSealOfASumWithZeroBytes(t *testing.T) {
	for _, sum := range sums {
		b := summedTo(sum)
		want := slices.Concat(b, number(sum))
		if got := crc.Seal(b); !bytes.Equal(got, want) {
			t.Errorf("Seal(%v) = %v, not %v", b, got, want)
		}
		wantOpened(t, want, b)
	}
}

func TestSealOfNothing(t *testing.T) {
	for _, b := range [][]byte{nil, {}} {
		if got := crc.Seal(b); !bytes.Equal(got, make([]byte, 4)) {
			t.Errorf("Seal() = %v", got)
		}
	}
}

func TestSealOfWhatIsSealed(t *testing.T) {
	once := crc.Seal(count(5))
	twice := crc.Seal(once)
	wantOpened(t, twice, once)
	wantOpened(t, once, count(5))
}

func TestOpenOfFewerThanFourBytes(t *testing.T) {
	for _, b := range [][]byte{nil, {}, {0}, {0, 0}, {0, 0, 0}, {1, 2, 3}, {255, 255, 255}} {
		wantRefused(t, b, api.ErrShort)
	}
}

func TestOpenDoesNotReachPastTheEnd(t *testing.T) {
	sealed := crc.Seal(nil)
	for n := range 4 {
		wantRefused(t, sealed[:n], api.ErrShort)
	}
	sealed = crc.Seal(count(3))
	for n := range sealed {
		want := api.ErrSum
		if n < 4 {
			want = api.ErrShort
		}
		wantRefused(t, sealed[:n], want)
	}
}

func TestOpenOfFourBytes(t *testing.T) {
	wantOpened(t, []byte{0, 0, 0, 0}, nil)
	for i := range 32 {
		wantRefused(t, number(1<<i), api.ErrSum)
	}
	wantRefused(t, []byte{255, 255, 255, 255}, api.ErrSum)
}

func TestOpenRefusesAnySumButTheOne(t *testing.T) {
	for n := range 20 {
		b := mixed(n, 5)
		sum := checksum(b)
		for i := range 32 {
			wantRefused(t, slices.Concat(b, number(sum^1<<i)), api.ErrSum)
		}
		for i := range 4 {
			wantRefused(t, slices.Concat(b, number(sum^255<<(8*i))), api.ErrSum)
		}
		for _, other := range append(sums, ^sum, sum>>1, sum<<1) {
			if other != sum {
				wantRefused(t, slices.Concat(b, number(other)), api.ErrSum)
			}
		}
		wantRefused(t, slices.Concat(b, number(sum+1)), api.ErrSum)
		wantRefused(t, slices.Concat(b, number(sum-1)), api.ErrSum)
	}
}

func TestOpenRefusesAnotherOrderOfTheSum(t *testing.T) {
	sealed := []byte("123456789\x83\x92\x06\xe3")
	slices.Reverse(sealed[9:])
	wantRefused(t, sealed, api.ErrSum)
	slices.Reverse(sealed[9:])
	wantRefused(t, slices.Concat(sealed[9:], sealed[:9]), api.ErrSum)
}

func TestOpenRefusesOtherLengths(t *testing.T) {
	for n := range 20 {
		sealed := crc.Seal(mixed(n+1, 9))
		wantRefused(t, append(bytes.Clone(sealed), 0), api.ErrSum)
		wantRefused(t, append([]byte{0}, sealed...), api.ErrSum)
		wantRefused(t, sealed[1:], api.ErrSum)
	}
}

// P3.3: consequences.

func TestPiecesMakeTheWhole(t *testing.T) {
	b := mixed(40, 13)
	for i := range len(b) + 1 {
		for j := i; j <= len(b); j++ {
			sum := crc.Of(b[:i])
			sum = crc.On(sum, b[i:j])
			sum = crc.On(sum, nil)
			sum = crc.On(sum, b[j:])
			if sum != crc.Of(b) || sum != checksum(b) {
				t.Errorf("pieces cut at %d and %d: %08x, not %08x", i, j, sum, checksum(b))
			}
		}
	}
}

func TestPiecesOfOneByte(t *testing.T) {
	b := mixed(300, 17)
	sum := crc.Of(nil)
	for i := range b {
		sum = crc.On(sum, b[i:i+1])
		if sum != crc.Of(b[:i+1]) {
			t.Fatalf("byte by byte, up to %d: %08x, not %08x", i, sum, crc.Of(b[:i+1]))
		}
	}
}

func TestThreeStringsXored(t *testing.T) {
	for n := range 80 {
		a, b, c := mixed(n, 1), mixed(n, 2), mixed(n, 3)
		together := make([]byte, n)
		for i := range together {
			together[i] = a[i] ^ b[i] ^ c[i]
		}
		if got, want := crc.Of(together), crc.Of(a)^crc.Of(b)^crc.Of(c); got != want {
			t.Errorf("three strings of %d bytes: %08x, not %08x", n, got, want)
		}
	}
}

func TestWhatWasSealedIsOpened(t *testing.T) {
	for n := range 300 {
		for _, b := range [][]byte{mixed(n, 19), make([]byte, n), bytes.Repeat([]byte{255}, n)} {
			wantOpened(t, crc.Seal(b), b)
		}
	}
	b := mixed(1<<16, 23)
	if got, code := crc.Open(crc.Seal(b)); !bytes.Equal(got, b) || code != api.OK {
		t.Errorf("65536 bytes: %d bytes, %d", len(got), code)
	}
}

// inverted returns b with those bits inverted that pattern names, from bit number at on: the lowest bit of a byte comes first.
func inverted(b []byte, at int, pattern uint32) []byte {
	c := bytes.Clone(b)
	for i := range 32 {
		if pattern>>i&1 == 1 {
			c[(at+i)/8] ^= 1 << ((at + i) % 8)
		}
	}
	return c
}

// invertedDown is inverted for n bits in a row, where the highest bit of a byte comes first.
func invertedDown(b []byte, at, n int) []byte {
	c := bytes.Clone(b)
	for i := at; i < at+n; i++ {
		c[i/8] ^= 128 >> (i % 8)
	}
	return c
}

func TestRunsOfChangedBitsAreSeen(t *testing.T) {
	for _, n := range []int{0, 1, 2, 3, 4, 5, 60} {
		sealed := crc.Seal(mixed(n, 29))
		end := 8 * len(sealed)
		for length := 1; length <= 32; length++ {
			for at := 0; at+length <= end; at++ {
				wantRefused(t, inverted(sealed, at, math.MaxUint32>>(32-length)), api.ErrSum)
				wantRefused(t, invertedDown(sealed, at, length), api.ErrSum)
			}
		}
	}
}

func TestSomeBitsOfARunAreSeen(t *testing.T) {
	sealed := crc.Seal(mixed(12, 31))
	end := 8 * len(sealed)
	for length := 1; length <= 32; length++ {
		ends := uint32(1)<<(length-1) | 1
		patterns := []uint32{ends, 0x55555555, 0xaaaaaaaa, 0x12345678, 0xdeadbeef, polynomial, bits.Reverse32(polynomial)}
		for _, p := range patterns {
			p = (p | ends) & (math.MaxUint32 >> (32 - length))
			for at := 0; at+length <= end; at++ {
				wantRefused(t, inverted(sealed, at, p), api.ErrSum)
			}
		}
	}
}

func TestAChangeAtTheBoundaryToTheChecksum(t *testing.T) {
	sealed := crc.Seal([]byte("boundary"))
	for before := range 32 {
		for length := before + 1; length <= 32; length++ {
			wantRefused(t, inverted(sealed, 64-before, math.MaxUint32>>(32-length)), api.ErrSum)
		}
	}
}

// R3: arguments, and memory of the caller's own.

func TestArgumentsAreNotModified(t *testing.T) {
	for _, content := range [][]byte{nil, count(1), count(9), mixed(64, 37)} {
		b := append(make([]byte, 0, 256), crc.Seal(content)...)
		room := b[:cap(b)]
		for i := len(b); i < len(room); i++ {
			room[i] = 170
		}
		before := bytes.Clone(room)
		crc.Of(b)
		crc.On(5, b)
		crc.Seal(b)
		crc.Open(b)
		crc.Open(b[:len(b)-1])
		crc.Seal(b[:len(b)-4])
		if !bytes.Equal(room, before) {
			t.Errorf("the argument has changed: %v", room)
		}
	}
}

func TestWhatSealReturnsIsNewMemory(t *testing.T) {
	for _, n := range []int{0, 1, 4, 28, 60} {
		b := append(make([]byte, 0, 256), mixed(n, 41)...)
		want := slices.Concat(b, number(checksum(b)))
		one, two := crc.Seal(b), crc.Seal(b)
		overwrite(one)
		if !bytes.Equal(b, mixed(n, 41)) || !bytes.Equal(two, want) {
			t.Errorf("with a result, the argument or another result has changed: %v, %v", b, two)
		}
		overwrite(b)
		if !bytes.Equal(two, want) {
			t.Errorf("with the argument, the result has changed: %v", two)
		}
	}
}

func TestWhatOpenReturnsIsNewMemory(t *testing.T) {
	for _, n := range []int{0, 1, 4, 28, 60} {
		content := mixed(n, 43)
		b := append(make([]byte, 0, 256), crc.Seal(content)...)
		before := bytes.Clone(b)
		one, _ := crc.Open(b)
		two, _ := crc.Open(b)
		overwrite(one)
		if !bytes.Equal(b, before) || !bytes.Equal(two, content) {
			t.Errorf("with a result, the argument or another result has changed: %v, %v", b, two)
		}
		overwrite(b)
		if !bytes.Equal(two, content) {
			t.Errorf("with the argument, the result has changed: %v", two)
		}
	}
}

// overwrite changes the bytes of b, and all the room behind them.
func overwrite(b []byte) {
	b = b[:cap(b)]
	for i := range b {
		b[i] ^= 255
	}
}

// Examples of the chapter.

func TestExamples(t *testing.T) {
	if n := crc.Of(nil); n != 0 {
		t.Errorf("Of() = %08x", n)
	}
	if n := crc.Of([]byte("123456789")); n != 0xe3069283 {
		t.Errorf("Of(123456789) = %08x", n)
	}
	if b := crc.Seal(nil); !bytes.Equal(b, []byte{0, 0, 0, 0}) {
		t.Errorf("Seal() = %v", b)
	}
	wantOpened(t, []byte{0, 0, 0, 0}, nil)
	wantRefused(t, []byte{0, 0, 0}, api.ErrShort)
	wantRefused(t, []byte{0, 0, 0, 1}, api.ErrSum)
}
