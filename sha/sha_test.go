package sha_test

import (
	"bytes"
	"crypto/sha256"
	"encoding/hex"
	"slices"
	"strings"
	"testing"

	"nacelle/api"
	"nacelle/sha"
)

// edges are totals round the end of a block, and round the place where the length no longer fits into it.
var edges = []int{0, 1, 2, 3, 54, 55, 56, 57, 62, 63, 64, 65, 66, 118, 119, 120, 121, 126, 127, 128, 129, 183, 184, 191, 192, 193}

// mixed returns n bytes of all kinds, others for another seed.
func mixed(n int, seed uint32) []byte {
	b := make([]byte, n)
	for i := range b {
		seed = seed*1664525 + 1013904223
		b[i] = byte(seed >> 24)
	}
	return b
}

// hashOf returns a Hash that has received the pieces, one after the other.
func hashOf(pieces ...[]byte) *sha.Hash {
	h := sha.New()
	for _, p := range pieces {
		h.Write(p)
	}
	return h
}

// wantReceived fails the test, unless h has received b, as far as it tells.
func wantReceived(t *testing.T, h *sha.Hash, b []byte) {
	t.Helper()
	if got := h.Len(); got != len(b) {
		t.Errorf("Len() = %d, not %d", got, len(b))
	}
	if got, want := h.Sum(), sha256.Sum256(b); got != want {
		t.Errorf("Sum() after %d bytes = %x, not %x", len(b), got, want)
	}
}

// wantRefused fails the test, unless Unhex finds no digest for s.
func wantRefused(t *testing.T, s string) {
	t.Helper()
	if got, code := sha.Unhex(s); got != [api.SumBytes]byte{} || code != api.ErrForm {
		t.Errorf("Unhex(%q) = %x, %d, not %d", s, got, code, api.ErrForm)
	}
}

// overwrite changes the bytes of b, and all the room behind them.
func overwrite(b []byte) {
	b = b[:cap(b)]
	for i := range b {
		b[i] ^= 255
	}
}

// P4.1: Sum, Hex, Unhex.

func TestSumOfWhatIsPublished(t *testing.T) {
	for _, c := range []struct{ s, want string }{
		{"", "e3b0c44298fc1c149afbf4c8996fb92427ae41e4649b934ca495991b7852b855"},
		{"a", "ca978112ca1bbdcafac231b39a23dc4da786eff8147c4e72b9807785afee48bb"},
		{"abc", "ba7816bf8f01cfea414140de5dae2223b00361a396177a9cb410ff61f20015ad"},
		{"abcdbcdecdefdefgefghfghighijhijkijkljklmklmnlmnomnopnopq", "248d6a61d20638b8e5c026930c3e6039a33ce45964ff2167f6ecedd419db06c1"},
		{"abcdefghbcdefghicdefghijdefghijkefghijklfghijklmghijklmnhijklmnoijklmnopjklmnopqklmnopqrlmnopqrsmnopqrstnopqrstu", "cf5b16a778af8380036ce59e7b0492370b249b11e8f07a51afac45037afee9d1"},
		{"The quick brown fox jumps over the lazy dog", "d7a8fbb307d7809469ca9abcb0082e4f8d5651e46d3cdb762d02d0bf37c9e592"},
		{strings.Repeat("a", 1000000), "cdc76e5c9914fb9281a1c7e284d73e67f1809a48a497200e046d39ccc7112cd0"},
	} {
		if got := sha.Hex(sha.Sum([]byte(c.s))); got != c.want {
			t.Errorf("Sum of %d bytes = %s, not %s", len(c.s), got, c.want)
		}
	}
}

func TestSumOfNothing(t *testing.T) {
	want := sha256.Sum256(nil)
	for _, b := range [][]byte{nil, {}, make([]byte, 0, 80), mixed(64, 1)[64:]} {
		if got := sha.Sum(b); got != want {
			t.Errorf("Sum() = %x, not %x", got, want)
		}
	}
}

func TestSumOfEachByte(t *testing.T) {
	for c := range 256 {
		for _, b := range [][]byte{{byte(c)}, {0, byte(c)}, bytes.Repeat([]byte{byte(c)}, 64)} {
			if got, want := sha.Sum(b), sha256.Sum256(b); got != want {
				t.Errorf("Sum(%v) = %x, not %x", b, got, want)
			}
		}
	}
}

func TestSumOfEachLength(t *testing.T) {
	for n := range 520 {
		for _, b := range [][]byte{mixed(n, 2), make([]byte, n), bytes.Repeat([]byte{255}, n), bytes.Repeat([]byte{128}, n)} {
			if got, want := sha.Sum(b), sha256.Sum256(b); got != want {
				t.Errorf("Sum of %d bytes = %x, not %x", n, got, want)
			}
		}
	}
}

func TestSumOfManyBytes(t *testing.T) {
	// From 32 bytes, 8192 bytes and 2 MiB on, the number of bits has one byte more.
	for _, n := range []int{31, 32, 8191, 8192, 1<<16 - 1, 1 << 16, 1 << 20, 1<<21 - 1, 1 << 21, 1<<21 + 1} {
		b := mixed(n, 3)
		if got, want := sha.Sum(b), sha256.Sum256(b); got != want {
			t.Errorf("Sum of %d bytes = %x, not %x", n, got, want)
		}
	}
}

func TestSumTellsTheEndingApart(t *testing.T) {
	seen := map[[api.SumBytes]byte]string{}
	for _, s := range []string{"", "\x80", "\x80\x00", "\x00", "\x00\x00", "a", "a\x80", "a\x00", "\x00a", strings.Repeat("\x00", 55), strings.Repeat("\x00", 56), strings.Repeat("\x00", 64), "\x80" + strings.Repeat("\x00", 63)} {
		sum := sha.Sum([]byte(s))
		if other, there := seen[sum]; there {
			t.Errorf("Sum(%q) is that of %q", s, other)
		}
		seen[sum] = s
	}
}

func TestHexOfEachByte(t *testing.T) {
	for at := range api.SumBytes {
		for c := range 256 {
			var sum [api.SumBytes]byte
			sum[at] = byte(c)
			if got, want := sha.Hex(sum), hex.EncodeToString(sum[:]); got != want {
				t.Errorf("Hex(%x) = %s", sum, got)
			}
		}
	}
}

func TestHexOfMixedSums(t *testing.T) {
	for seed := range uint32(100) {
		sum := [api.SumBytes]byte(mixed(api.SumBytes, seed))
		want := hex.EncodeToString(sum[:])
		if got := sha.Hex(sum); got != want {
			t.Errorf("Hex(%x) = %s", sum, got)
		}
		if got, code := sha.Unhex(want); got != sum || code != api.OK {
			t.Errorf("Unhex(%s) = %x, %d", want, got, code)
		}
	}
}

func TestHexOfOneDigit(t *testing.T) {
	for c := range 16 {
		sum := [api.SumBytes]byte(bytes.Repeat([]byte{byte(17 * c)}, api.SumBytes))
		want := strings.Repeat("0123456789abcdef"[c:c+1], 64)
		if got := sha.Hex(sum); got != want {
			t.Errorf("Hex(%x) = %s", sum, got)
		}
	}
}

func TestUnhexOfHexOfEachByte(t *testing.T) {
	for at := range api.SumBytes {
		for c := range 256 {
			var sum [api.SumBytes]byte
			sum[at] = byte(c)
			if got, code := sha.Unhex(sha.Hex(sum)); got != sum || code != api.OK {
				t.Errorf("Unhex of Hex(%x) = %x, %d", sum, got, code)
			}
		}
	}
}

func TestUnhexOfOtherLengths(t *testing.T) {
	text := strings.Repeat("0123456789abcdef", 9)
	for n := range len(text) + 1 {
		if n != 64 {
			wantRefused(t, text[:n])
			wantRefused(t, strings.Repeat("0", n))
		}
	}
	wantRefused(t, strings.Repeat("a", 1<<16))
}

func TestUnhexOfEachByteAtEachPlace(t *testing.T) {
	text := sha.Hex(sha.Sum(nil))
	for at := range len(text) {
		for c := range 256 {
			s := text[:at] + string([]byte{byte(c)}) + text[at+1:]
			if !strings.Contains("0123456789abcdef", string([]byte{byte(c)})) {
				wantRefused(t, s)
			} else if got, code := sha.Unhex(s); code != api.OK || sha.Hex(got) != s {
				t.Errorf("Unhex(%s) = %x, %d", s, got, code)
			}
		}
	}
}

func TestUnhexOfUpperCaseLetters(t *testing.T) {
	for _, letter := range []string{"A", "B", "C", "D", "E", "F"} {
		wantRefused(t, strings.Repeat(letter, 64))
		wantRefused(t, strings.Repeat("0", 63)+letter)
		wantRefused(t, letter+strings.Repeat("0", 63))
	}
	wantRefused(t, strings.ToUpper(sha.Hex(sha.Sum(nil))))
}

func TestUnhexOfWhatIsBesideTheDigits(t *testing.T) {
	for _, c := range []string{"/", ":", "`", "g", "z", "@", "G", " ", "-", "+", "_", ".", "x", "\x00", "\n", "\x7f"} {
		wantRefused(t, strings.Repeat(c, 64))
		wantRefused(t, strings.Repeat("0", 63)+c)
		wantRefused(t, c+strings.Repeat("f", 63))
	}
	wantRefused(t, "0x"+strings.Repeat("0", 62))
	wantRefused(t, "0x"+strings.Repeat("0", 64))
}

func TestUnhexOfWhatIsNotASCII(t *testing.T) {
	// Digits of other scripts, letters whose lowest byte is a digit's, and bytes that are no text at all.
	for _, c := range []string{"ä", "é", "١", "０", "ａ", "а", "İ", "ı", "š", "ű", "𝟎", "\ufffd", "\x80", "\xb0", "\xe1", "\xff", "\xc0\xb0", "\xed\xa0\x80"} {
		rest := 64 - len(c)
		wantRefused(t, c+strings.Repeat("0", rest))
		wantRefused(t, strings.Repeat("0", rest)+c)
		wantRefused(t, strings.Repeat("0", rest/2)+c+strings.Repeat("0", rest-rest/2))
		// So many characters that they would be enough, if they were digits.
		wantRefused(t, c+strings.Repeat("0", 63))
		wantRefused(t, strings.Repeat("0", 63)+c)
		wantRefused(t, strings.Repeat(c, 64))
		wantRefused(t, strings.Repeat(c, 64/len(c)))
	}
}

// P4.2: Write, Len, Sum, Copy.

func TestANewHashHasReceivedNothing(t *testing.T) {
	for range 3 {
		h := sha.New()
		wantReceived(t, h, nil)
		h.Write(mixed(100, 4))
	}
}

func TestWriteOfEachLength(t *testing.T) {
	for n := range 300 {
		b := mixed(n, 5)
		wantReceived(t, hashOf(b), b)
	}
}

func TestLenAtEachEdge(t *testing.T) {
	for _, n := range edges {
		h := sha.New()
		for i := range n {
			if got := h.Len(); got != i {
				t.Errorf("Len() = %d, not %d", got, i)
			}
			h.Write([]byte{byte(i)})
		}
		if got := h.Len(); got != n {
			t.Errorf("Len() = %d, not %d", got, n)
		}
		if got := h.Copy().Len(); got != n {
			t.Errorf("Len() of a copy = %d, not %d", got, n)
		}
	}
}

func TestAnEmptyPieceChangesNothing(t *testing.T) {
	for _, n := range edges {
		b := mixed(n, 6)
		for _, empty := range [][]byte{nil, {}, make([]byte, 0, 70), mixed(8, 7)[8:]} {
			wantReceived(t, hashOf(empty, b), b)
			wantReceived(t, hashOf(b, empty), b)
			wantReceived(t, hashOf(b[:n/2], empty, empty, b[n/2:]), b)
		}
	}
}

func TestSumChangesNothing(t *testing.T) {
	for _, n := range edges {
		for _, more := range edges {
			b := mixed(n+more, 8)
			h := hashOf(b[:n])
			wantReceived(t, h, b[:n])
			wantReceived(t, h, b[:n])
			h.Write(b[n:])
			wantReceived(t, h, b)
			wantReceived(t, h, b)
		}
	}
}

func TestSumBetweenAllPieces(t *testing.T) {
	b := mixed(200, 9)
	for _, size := range []int{1, 2, 7, 55, 63, 64, 65, 100} {
		h := sha.New()
		for at := 0; at < len(b); at += size {
			end := min(at+size, len(b))
			h.Write(b[at:end])
			wantReceived(t, h, b[:end])
		}
	}
}

func TestACopyGoesItsOwnWay(t *testing.T) {
	for _, n := range edges {
		for _, more := range []int{1, 5, 55, 63, 64, 65, 128, 200} {
			before, one, two := mixed(n, 10), mixed(more, 11), mixed(more, 12)
			h := hashOf(before)
			c := h.Copy()
			wantReceived(t, c, before)
			h.Write(one)
			wantReceived(t, c, before)
			c.Write(two)
			wantReceived(t, h, slices.Concat(before, one))
			wantReceived(t, c, slices.Concat(before, two))
			h.Write(two)
			wantReceived(t, h, slices.Concat(before, one, two))
			wantReceived(t, c, slices.Concat(before, two))
		}
	}
}

func TestTheCopyMayGoFirst(t *testing.T) {
	for _, n := range edges {
		before, one, two := mixed(n, 13), mixed(70, 14), mixed(3, 15)
		h := hashOf(before)
		c := h.Copy()
		c.Write(one)
		wantReceived(t, h, before)
		h.Write(two)
		wantReceived(t, c, slices.Concat(before, one))
		wantReceived(t, h, slices.Concat(before, two))
	}
}

func TestACopyOfACopy(t *testing.T) {
	all := mixed(300, 16)
	h := sha.New()
	var copies []*sha.Hash
	for at := 0; at < len(all); at += 20 {
		copies = append(copies, h)
		h = h.Copy().Copy()
		h.Write(all[at : at+20])
	}
	wantReceived(t, h, all)
	for i, c := range copies {
		wantReceived(t, c, all[:20*i])
	}
}

func TestACopyAfterSum(t *testing.T) {
	for _, n := range edges {
		b := mixed(n, 17)
		h := hashOf(b)
		h.Sum()
		c := h.Copy()
		wantReceived(t, c, b)
		c.Write([]byte("more"))
		c.Sum()
		wantReceived(t, h, b)
		wantReceived(t, c, append(b, "more"...))
	}
}

func TestTwoHashesAreIndependent(t *testing.T) {
	one, two := sha.New(), sha.New()
	a, b := mixed(150, 18), mixed(150, 19)
	for i := range a {
		one.Write(a[i : i+1])
		two.Write(b[i : i+1])
		sha.Sum(a[:i])
	}
	wantReceived(t, one, a)
	wantReceived(t, two, b)
}

// P4.3: pieces.

func TestTwoPiecesMakeTheWhole(t *testing.T) {
	for _, n := range edges {
		b := mixed(n, 20)
		for cut := range n + 1 {
			h := hashOf(b[:cut], b[cut:])
			if h.Sum() != sha.Sum(b) {
				t.Errorf("cut at %d: not the digest of the whole", cut)
			}
			wantReceived(t, h, b)
		}
	}
}

func TestThreePiecesMakeTheWhole(t *testing.T) {
	b := mixed(140, 21)
	want := sha256.Sum256(b)
	for i := range len(b) + 1 {
		for j := i; j <= len(b); j++ {
			h := hashOf(b[:i], b[i:j], b[j:])
			if got := h.Sum(); got != want || h.Len() != len(b) {
				t.Errorf("cut at %d and %d: %x, %d", i, j, got, h.Len())
			}
		}
	}
}

func TestPiecesOfOneSize(t *testing.T) {
	b := mixed(700, 22)
	for size := 1; size <= 200; size++ {
		h := sha.New()
		for piece := range slices.Chunk(b, size) {
			h.Write(piece)
			h.Write(nil)
		}
		wantReceived(t, h, b)
	}
}

func TestPiecesLongerThanABlock(t *testing.T) {
	for _, first := range edges {
		for _, size := range []int{65, 127, 128, 129, 191, 192, 193, 1000} {
			b := mixed(first+2*size, 23)
			wantReceived(t, hashOf(b[:first], b[first:first+size], b[first+size:]), b)
		}
	}
}

// R3: arguments.

func TestWhatWasWrittenMayBeModified(t *testing.T) {
	for _, n := range edges {
		for _, more := range edges {
			one, two := mixed(n, 24), mixed(more, 25)
			all := slices.Concat(one, two)
			h := hashOf(one)
			c := h.Copy()
			overwrite(one)
			wantReceived(t, h, all[:n])
			h.Write(two)
			overwrite(two)
			wantReceived(t, h, all)
			wantReceived(t, c, all[:n])
		}
	}
}

func TestArgumentsAreNotModified(t *testing.T) {
	for _, n := range edges {
		b := append(make([]byte, 0, 400), mixed(n, 26)...)
		room := b[:cap(b)]
		for i := n; i < len(room); i++ {
			room[i] = 170
		}
		before := bytes.Clone(room)
		sha.Sum(b)
		h := hashOf(b, b)
		h.Sum()
		h.Copy().Write(b)
		h.Sum()
		if !bytes.Equal(room, before) {
			t.Errorf("with %d bytes, the argument has changed: %v", n, room)
		}
	}
}

func TestASumIsAValue(t *testing.T) {
	h := hashOf([]byte("abc"))
	sum := h.Sum()
	overwrite(sum[:])
	wantReceived(t, h, []byte("abc"))
	whole := sha.Sum([]byte("abc"))
	overwrite(whole[:])
	if got := sha.Sum([]byte("abc")); got != sha256.Sum256([]byte("abc")) {
		t.Errorf("Sum(abc) = %x", got)
	}
}

// Examples of the chapter.

func TestExamples(t *testing.T) {
	if s := sha.Hex(sha.Sum([]byte("abc"))); s != "ba7816bf8f01cfea414140de5dae2223b00361a396177a9cb410ff61f20015ad" {
		t.Errorf("1: %s", s)
	}
	if s := sha.Hex(sha.Sum(nil)); s != "e3b0c44298fc1c149afbf4c8996fb92427ae41e4649b934ca495991b7852b855" {
		t.Errorf("2: %s", s)
	}
}
