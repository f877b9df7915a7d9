package extent_test

import (
	"bytes"
	"math"
	"math/big"
	"slices"
	"testing"

	"nacelle/api"
	"nacelle/disk"
	"nacelle/extent"
)

// zeros is what a sector has at first.
var zeros = make([]byte, api.SectorBytes)

// a, b and c are contents of sectors, of which no two bytes at one place are the same.
var (
	a = counted(1, api.SectorBytes)
	b = counted(71, api.SectorBytes)
	c = counted(141, api.SectorBytes)
)

// edges are ints near which sums and differences go wrong.
var edges = []int{
	math.MinInt, math.MinInt + 1, math.MinInt + 2, math.MinInt / 2, -64, -2, -1, 0, 1, 2, 3, 4, 5, 64, api.MaxSectors, api.MaxSectors + 1,
	math.MaxInt / 64, math.MaxInt/64 + 1, math.MaxInt / 2, math.MaxInt/2 + 1, math.MaxInt - 2, math.MaxInt - 1, math.MaxInt,
}

// counted returns n bytes that count up from first.
func counted(first byte, n int) []byte {
	list := make([]byte, n)
	for i := range list {
		list[i] = first + byte(i)
	}
	return list
}

// marked returns the content of a sector that tells its number.
func marked(sector int) []byte {
	return bytes.Repeat([]byte{byte(sector) ^ 165}, api.SectorBytes)
}

// overwrite changes the bytes of list, and all the room behind them.
func overwrite(list []byte) {
	list = list[:cap(list)]
	for i := range list {
		list[i] ^= 255
	}
}

// of returns an extent.
func of(from, count int) extent.Extent {
	return extent.Extent{From: from, Count: count}
}

// newDisk returns a disk with so many sectors, each of which tells its number.
func newDisk(t *testing.T, sectors int) *disk.Disk {
	t.Helper()
	d, code := disk.New(sectors)
	if code != api.OK {
		t.Fatalf("disk.New(%d) = %d", sectors, code)
	}
	var content []byte
	for at := range sectors {
		content = append(content, marked(at)...)
	}
	wantCode(t, "Load", d.Load(content), api.OK)
	return d
}

// newPart returns the part of the disk that lies there.
func newPart(t *testing.T, d *disk.Disk, from, count int) *extent.Part {
	t.Helper()
	p, code := extent.New(d, of(from, count))
	if p == nil || code != api.OK {
		t.Fatalf("New of %d sectors from %d on = %v, %d", count, from, p, code)
	}
	return p
}

// inner returns the part of the part that lies there.
func inner(t *testing.T, p *extent.Part, from, count int) *extent.Part {
	t.Helper()
	q, code := p.Part(of(from, count))
	if q == nil || code != api.OK {
		t.Fatalf("Part of %d sectors from %d on = %v, %d", count, from, q, code)
	}
	return q
}

// write fails the test, unless the part takes the write.
func write(t *testing.T, p *extent.Part, at int, data []byte) {
	t.Helper()
	wantCode(t, "Write", p.Write(at, data), api.OK)
}

// wantCode fails the test, unless a call returned this code.
func wantCode(t *testing.T, call string, got, want api.Errno) {
	t.Helper()
	if got != want {
		t.Errorf("%s = %d, not %d", call, got, want)
	}
}

// reader is a disk or a part.
type reader interface {
	Read(at int) ([]byte, api.Errno)
}

// wantRead fails the test, unless Read returns want.
func wantRead(t *testing.T, r reader, at int, want []byte) {
	t.Helper()
	if got, code := r.Read(at); code != api.OK || !bytes.Equal(got, want) {
		t.Errorf("Read(%d) = %v, %d, not %v", at, got, code, want)
	}
}

// wantNoRead fails the test, unless Read returns this code and nothing else.
func wantNoRead(t *testing.T, r reader, at int, want api.Errno) {
	t.Helper()
	if got, code := r.Read(at); code != want || len(got) != 0 {
		t.Errorf("Read(%d) = %v, %d, not %d", at, got, code, want)
	}
}

// wantImage fails the test, unless the disk or the part has these sectors.
func wantImage(t *testing.T, x interface{ Image() []byte }, sectors ...[]byte) {
	t.Helper()
	if got := x.Image(); !bytes.Equal(got, slices.Concat(sectors...)) {
		t.Errorf("Image() = %v, not %v", got, sectors)
	}
}

// wantWaiting fails the test, unless the writes to these sectors are pending.
func wantWaiting(t *testing.T, d *disk.Disk, want ...int) {
	t.Helper()
	if got := d.Waiting(); !slices.Equal(got, want) {
		t.Errorf("Waiting() = %v, not %v", got, want)
	}
}

// P6.1: Lies, Apart, Place.

// sum returns the sum of ints that an int may not be able to hold.
func sum(list ...int) *big.Int {
	total := new(big.Int)
	for _, n := range list {
		total.Add(total, big.NewInt(int64(n)))
	}
	return total
}

// least tells whether n is at least m.
func least(n, m *big.Int) bool {
	return n.Cmp(m) >= 0
}

func TestLies(t *testing.T) {
	for _, test := range []struct {
		from, count, sectors int
		want                 bool
	}{
		{0, 1, 1, true}, {0, 5, 5, true}, {2, 3, 5, true}, {4, 1, 5, true}, {0, 1, 5, true}, {1, 3, 5, true},
		{0, 0, 5, false}, {5, 0, 5, false}, {2, 0, 5, false}, {0, -1, 5, false}, {3, -1, 5, false}, {5, -1, 5, false}, {4, math.MinInt, 5, false},
		{-1, 1, 5, false}, {-1, 2, 5, false}, {-1, 6, 5, false}, {math.MinInt, 1, 5, false}, {math.MinInt, math.MaxInt, 5, false},
		{4, 2, 5, false}, {5, 1, 5, false}, {6, 1, 5, false}, {2, 4, 5, false}, {0, 6, 5, false}, {1, 5, 5, false},
		{math.MaxInt, 1, 5, false}, {1, math.MaxInt, 5, false}, {math.MaxInt, math.MaxInt, 9, false}, {math.MaxInt - 1, 2, 5, false}, {4, math.MaxInt - 2, 5, false},
		{0, 1, 0, false}, {0, 0, 0, false}, {0, 1, -1, false}, {0, 1, math.MinInt, false}, {-1, 1, 0, false}, {-2, 1, -1, false}, {5, 1, math.MinInt, false}, {math.MaxInt, 1, math.MinInt, false},
		{math.MaxInt - 1, 1, math.MaxInt, true}, {0, math.MaxInt, math.MaxInt, true}, {math.MaxInt, 1, math.MaxInt, false}, {1, math.MaxInt, math.MaxInt, false},
	} {
		if got := extent.Lies(of(test.from, test.count), test.sectors); got != test.want {
			t.Errorf("Lies({%d %d}, %d) = %t", test.from, test.count, test.sectors, got)
		}
	}
}

func TestLiesNearAllEdges(t *testing.T) {
	for _, from := range edges {
		for _, count := range edges {
			for _, sectors := range edges {
				want := count >= 1 && from >= 0 && least(sum(sectors), sum(from, count))
				if got := extent.Lies(of(from, count), sectors); got != want {
					t.Errorf("Lies({%d %d}, %d) = %t", from, count, sectors, got)
				}
			}
		}
	}
}

func TestApart(t *testing.T) {
	for _, test := range []struct {
		list []extent.Extent
		want bool
	}{
		{nil, true}, {[]extent.Extent{}, true}, {[]extent.Extent{of(3, 4)}, true}, {[]extent.Extent{of(3, -4)}, true},
		{[]extent.Extent{of(0, 2), of(2, 3)}, true}, {[]extent.Extent{of(2, 3), of(0, 2)}, true},
		{[]extent.Extent{of(0, 3), of(2, 3)}, false}, {[]extent.Extent{of(2, 3), of(0, 3)}, false},
		{[]extent.Extent{of(0, 2), of(3, 3)}, true}, {[]extent.Extent{of(3, 3), of(0, 2)}, true},
		{[]extent.Extent{of(4, 2), of(4, 2)}, false}, {[]extent.Extent{of(4, 1), of(4, 1)}, false}, {[]extent.Extent{of(4, 1), of(4, 3)}, false},
		{[]extent.Extent{of(1, 9), of(4, 2)}, false}, {[]extent.Extent{of(4, 2), of(1, 9)}, false}, {[]extent.Extent{of(1, 9), of(9, 1)}, false}, {[]extent.Extent{of(1, 9), of(10, 1)}, true},
		{[]extent.Extent{of(4, 0), of(4, 0)}, true}, {[]extent.Extent{of(4, -2), of(4, -2)}, true}, {[]extent.Extent{of(1, 9), of(4, 0)}, true}, {[]extent.Extent{of(4, -1), of(1, 9)}, true},
		{[]extent.Extent{of(1, 9), of(20, -15), of(5, 0), of(10, 1)}, true}, {[]extent.Extent{of(1, 3), of(2, 0), of(3, 1)}, false}, {[]extent.Extent{of(1, 3), of(2, math.MinInt), of(3, 1)}, false},
		{[]extent.Extent{of(8, 2), of(0, 2), of(4, 2), of(20, 1), of(9, 1)}, false}, {[]extent.Extent{of(8, 2), of(0, 2), of(4, 2), of(20, 1), of(10, 1)}, true},
		{[]extent.Extent{of(0, 9), of(1, 1), of(20, 1)}, false}, {[]extent.Extent{of(0, 20), of(-5, 5), of(22, 1), of(19, 1)}, false},
		{[]extent.Extent{of(-3, 3), of(0, 1)}, true}, {[]extent.Extent{of(-3, 4), of(0, 1)}, false}, {[]extent.Extent{of(-3, 2), of(-2, 2)}, false}, {[]extent.Extent{of(-2, 2), of(-4, 2)}, true},
		{[]extent.Extent{of(math.MaxInt, 1), of(math.MaxInt-1, 1)}, true}, {[]extent.Extent{of(math.MaxInt-1, 2), of(math.MaxInt, 1)}, false}, {[]extent.Extent{of(math.MaxInt, math.MaxInt), of(0, 5)}, true}, {[]extent.Extent{of(1, math.MaxInt), of(math.MaxInt, 1)}, false},
		{[]extent.Extent{of(math.MinInt, 1), of(math.MinInt+1, 1)}, true}, {[]extent.Extent{of(math.MinInt, 2), of(math.MinInt+1, 1)}, false}, {[]extent.Extent{of(math.MinInt, 1), of(math.MaxInt, 1)}, true}, {[]extent.Extent{of(math.MinInt, math.MaxInt), of(-1, 1)}, true}, {[]extent.Extent{of(math.MinInt, math.MaxInt), of(-2, 1)}, false},
		{[]extent.Extent{of(math.MinInt, math.MinInt), of(math.MinInt, math.MaxInt), of(-1, math.MaxInt), of(math.MaxInt-1, math.MaxInt)}, true},
	} {
		if got := extent.Apart(test.list); got != test.want {
			t.Errorf("Apart(%v) = %t", test.list, got)
		}
	}
}

// disjoint tells whether no sector is in both extents, by their ends.
func disjoint(x, y extent.Extent) bool {
	return x.Count < 1 || y.Count < 1 || least(sum(y.From), sum(x.From, x.Count)) || least(sum(x.From), sum(y.From, y.Count))
}

func TestApartOfTwoNearAllEdges(t *testing.T) {
	var list []extent.Extent
	for _, from := range edges {
		for _, count := range edges {
			list = append(list, of(from, count))
		}
	}
	for _, x := range list {
		for _, y := range list {
			if got := extent.Apart([]extent.Extent{x, y}); got != disjoint(x, y) {
				t.Errorf("Apart of %v, %v = %t", x, y, got)
			}
		}
	}
}

// once tells whether no number is in two of the extents, by marking one number after the other.
func once(list []extent.Extent) bool {
	taken := map[int]int{}
	for _, x := range list {
		for at := range max(x.Count, 0) {
			taken[x.From+at]++
			if taken[x.From+at] > 1 {
				return false
			}
		}
	}
	return true
}

func TestApartOfAllSmallTriples(t *testing.T) {
	var small []extent.Extent
	for from := -1; from <= 3; from++ {
		for count := -1; count <= 3; count++ {
			small = append(small, of(from, count))
		}
	}
	for _, x := range small {
		for _, y := range small {
			for _, z := range small {
				list := []extent.Extent{x, y, z}
				if got := extent.Apart(list); got != once(list) {
					t.Errorf("Apart(%v) = %t", list, got)
				}
			}
		}
	}
}

func TestApartOfAnyOrder(t *testing.T) {
	list := []extent.Extent{of(-9, 4), of(-5, 5), of(0, 1), of(1, 30), of(31, 2), of(40, 0), of(math.MaxInt, 2)}
	shared := append(slices.Clone(list), of(2, 1))
	for i := range 1000 {
		for j := range list {
			k := (i*7 + j*3) % len(list)
			list[j], list[k] = list[k], list[j]
		}
		for j := range shared {
			k := (i*5 + j*3) % len(shared)
			shared[j], shared[k] = shared[k], shared[j]
		}
		if !extent.Apart(list) || extent.Apart(shared) {
			t.Fatalf("Apart(%v) = %t, Apart(%v) = %t", list, extent.Apart(list), shared, extent.Apart(shared))
		}
	}
}

func TestOnlyTheFirstAndTheLastShareASector(t *testing.T) {
	for n := 3; n < 20; n++ {
		for _, step := range []int{5, -5} {
			var list []extent.Extent
			for i := range n {
				list = append(list, of(100+i*step, 5))
			}
			if !extent.Apart(list) {
				t.Errorf("Apart(%v) = false", list)
			}
			for _, from := range []int{96, 100, 104} {
				if extent.Apart(append(slices.Clone(list[:n-1]), of(from, 1))) != (from < 100 && step > 0) {
					t.Errorf("Apart of %v, and one from %d on", list[:n-1], from)
				}
			}
		}
	}
}

func TestApartOfVeryMany(t *testing.T) {
	list := make([]extent.Extent, 300000)
	for i := range list {
		list[i] = of(i*3, 3)
	}
	slices.Reverse(list[1:])
	if !extent.Apart(list) {
		t.Error("Apart = false")
	}
	list[len(list)-1] = of(2, 1)
	if extent.Apart(list) {
		t.Error("Apart = true")
	}
}

func TestPlace(t *testing.T) {
	for _, test := range []struct{ from, count, at, want int }{
		{2, 3, 0, 2}, {2, 3, 1, 3}, {2, 3, 2, 4}, {0, 1, 0, 0}, {0, 256, 255, 255}, {1000, 5, 4, 1004},
		{-3, 5, 0, -3}, {-3, 5, 2, -1}, {-3, 5, 3, 0}, {-3, 5, 4, 1}, {math.MinInt, 2, 0, math.MinInt}, {math.MinInt, 2, 1, math.MinInt + 1}, {math.MinInt, math.MaxInt, math.MaxInt - 1, -2},
		{math.MaxInt, 1, 0, math.MaxInt}, {math.MaxInt, 2, 0, math.MaxInt}, {math.MaxInt - 2, 9, 2, math.MaxInt}, {1, math.MaxInt, math.MaxInt - 1, math.MaxInt}, {0, math.MaxInt, math.MaxInt - 1, math.MaxInt - 1}, {-1, math.MaxInt, math.MaxInt - 1, math.MaxInt - 2},
	} {
		if got, code := extent.Place(of(test.from, test.count), test.at); got != test.want || code != api.OK {
			t.Errorf("Place({%d %d}, %d) = %d, %d, not %d", test.from, test.count, test.at, got, code, test.want)
		}
	}
}

func TestPlaceOfNoSuchSector(t *testing.T) {
	for _, test := range []struct{ from, count, at int }{
		{2, 3, -1}, {2, 3, 3}, {2, 3, 4}, {2, 3, math.MinInt}, {2, 3, math.MaxInt}, {2, 1, 1}, {-3, 5, -1}, {-3, 5, 5}, {-3, 5, -3},
		{2, 0, 0}, {2, 0, -1}, {2, -1, 0}, {2, -1, -1}, {2, -3, -2}, {2, math.MinInt, 0}, {2, math.MinInt, math.MinInt}, {0, 0, 0},
		{math.MaxInt, 2, 1}, {math.MaxInt - 2, 9, 3}, {math.MaxInt, math.MaxInt, math.MaxInt - 1}, {2, math.MaxInt, math.MaxInt - 1}, {2, math.MaxInt, math.MaxInt}, {-5, math.MaxInt, math.MaxInt},
	} {
		if got, code := extent.Place(of(test.from, test.count), test.at); got != 0 || code != api.ErrRange {
			t.Errorf("Place({%d %d}, %d) = %d, %d", test.from, test.count, test.at, got, code)
		}
	}
}

func TestPlaceNearAllEdges(t *testing.T) {
	for _, from := range edges {
		for _, count := range edges {
			for _, at := range edges {
				want, wanted := 0, api.ErrRange
				if at >= 0 && at < count && least(sum(math.MaxInt), sum(from, at)) {
					want, wanted = from+at, api.OK
				}
				if got, code := extent.Place(of(from, count), at); got != want || code != wanted {
					t.Errorf("Place({%d %d}, %d) = %d, %d, not %d, %d", from, count, at, got, code, want, wanted)
				}
			}
		}
	}
}

// P6.2: New, Size, Read, Write, Flush, Image, Part.

func TestNewOfEachExtentOfADisk(t *testing.T) {
	const sectors = 5
	d := newDisk(t, sectors)
	for from := -2; from <= sectors+2; from++ {
		for count := -2; count <= sectors+3; count++ {
			p, code := extent.New(d, of(from, count))
			if from < 0 || count < 1 || from+count > sectors {
				if p != nil || code != api.ErrArg {
					t.Errorf("New of %d sectors from %d on = %v, %d", count, from, p, code)
				}
				continue
			}
			if code != api.OK || p.Size() != count {
				t.Fatalf("New of %d sectors from %d on = %v, %d", count, from, p, code)
			}
			for at := range count {
				wantRead(t, p, at, marked(from+at))
			}
			wantNoRead(t, p, -1, api.ErrRange)
			wantNoRead(t, p, count, api.ErrRange)
		}
	}
}

func TestNewOfExtentsThatDoNotLieOnTheDisk(t *testing.T) {
	d := newDisk(t, 9)
	for _, from := range edges {
		for _, count := range edges {
			if extent.Lies(of(from, count), 9) {
				continue
			}
			if p, code := extent.New(d, of(from, count)); p != nil || code != api.ErrArg {
				t.Errorf("New of %d sectors from %d on = %v, %d", count, from, p, code)
			}
		}
	}
	wantWaiting(t, d)
}

func TestNewOfTheGreatestDisk(t *testing.T) {
	d := newDisk(t, api.MaxSectors)
	p := newPart(t, d, 0, api.MaxSectors)
	if p.Size() != api.MaxSectors || !bytes.Equal(p.Image(), d.Image()) {
		t.Errorf("a part of all sectors: Size() = %d, Image() = %v", p.Size(), p.Image())
	}
	last := newPart(t, d, api.MaxSectors-1, 1)
	wantRead(t, last, 0, marked(api.MaxSectors-1))
	if _, code := extent.New(d, of(api.MaxSectors-1, 2)); code != api.ErrArg {
		t.Errorf("New behind the end = %d", code)
	}
	if _, code := extent.New(d, of(api.MaxSectors, 1)); code != api.ErrArg {
		t.Errorf("New behind the end = %d", code)
	}
}

func TestNewChangesNothing(t *testing.T) {
	d := newDisk(t, 3)
	d.Arm(1, nil)
	newPart(t, d, 0, 2)
	newPart(t, d, 0, 2)
	p := newPart(t, d, 1, 2)
	wantWaiting(t, d)
	wantImage(t, d, marked(0), marked(1), marked(2))
	write(t, p, 1, a)
	wantCode(t, "Write of the power failure", p.Write(1, b), api.ErrPower)
}

func TestNewAndPartWithoutPower(t *testing.T) {
	d := newDisk(t, 4)
	d.Crash(nil)
	p := newPart(t, d, 1, 3)
	q := inner(t, p, 1, 2)
	if p.Size() != 3 || q.Size() != 2 {
		t.Errorf("Size() = %d, %d", p.Size(), q.Size())
	}
	if p, code := extent.New(d, of(1, 4)); p != nil || code != api.ErrArg {
		t.Errorf("New = %v, %d", p, code)
	}
	if q, code := p.Part(of(1, 3)); q != nil || code != api.ErrArg {
		t.Errorf("Part = %v, %d", q, code)
	}
	d.Power()
	wantRead(t, p, 0, marked(1))
	wantRead(t, q, 0, marked(2))
}

func TestSizeStays(t *testing.T) {
	d := newDisk(t, 6)
	p := newPart(t, d, 1, 4)
	for _, change := range []func(){
		func() { p.Write(0, a) }, func() { p.Write(4, a) }, func() { p.Part(of(0, 1)) }, func() { p.Flush() }, func() { d.Crash(nil) }, func() { p.Flush() }, d.Power,
	} {
		change()
		if p.Size() != 4 {
			t.Errorf("Size() = %d", p.Size())
		}
	}
}

func TestAPartHasItsExtent(t *testing.T) {
	p := newPart(t, newDisk(t, 9), 2, 5)
	if p.Extent != of(2, 5) || p.From != 2 || p.Count != 5 {
		t.Errorf("the extent of a part is %v", p.Extent)
	}
	q := inner(t, p, 1, 3)
	if q.Extent != of(3, 3) {
		t.Errorf("the extent of a part of a part is %v", q.Extent)
	}
}

func TestWhatAPartWritesTheDiskReads(t *testing.T) {
	d := newDisk(t, 5)
	p := newPart(t, d, 1, 3)
	write(t, p, 0, a)
	write(t, p, 2, b)
	wantRead(t, d, 1, a)
	wantRead(t, d, 3, b)
	wantRead(t, p, 0, a)
	wantRead(t, p, 1, marked(2))
	wantRead(t, p, 2, b)
	wantWaiting(t, d, 1, 3)
	write(t, p, 0, c)
	wantRead(t, d, 1, c)
	wantRead(t, p, 0, c)
	wantWaiting(t, d, 1, 3, 1)
	wantImage(t, d, marked(0), marked(1), marked(2), marked(3), marked(4))
}

func TestWhatTheDiskWritesAPartReads(t *testing.T) {
	d := newDisk(t, 5)
	p := newPart(t, d, 1, 3)
	for at := range 5 {
		wantCode(t, "Write of the disk", d.Write(at, counted(byte(at), api.SectorBytes)), api.OK)
	}
	for at := range 3 {
		wantRead(t, p, at, counted(byte(at+1), api.SectorBytes))
	}
	wantImage(t, p, marked(1), marked(2), marked(3))
	wantCode(t, "Flush of the disk", d.Flush(), api.OK)
	wantImage(t, p, counted(1, api.SectorBytes), counted(2, api.SectorBytes), counted(3, api.SectorBytes))
}

func TestWhatOnePartWritesAnotherOneOfTheSameSectorReads(t *testing.T) {
	d := newDisk(t, 5)
	p, q := newPart(t, d, 0, 3), newPart(t, d, 2, 3)
	write(t, p, 2, a)
	wantRead(t, q, 0, a)
	write(t, q, 0, b)
	wantRead(t, p, 2, b)
	wantRead(t, newPart(t, d, 2, 1), 0, b)
	wantWaiting(t, d, 2, 2)
}

// powers are the ways of having power, or none, at the next call.
var powers = []func(d *disk.Disk){
	func(d *disk.Disk) {},
	func(d *disk.Disk) { d.Arm(0, nil) },
	func(d *disk.Disk) { d.Crash(nil) },
}

func TestNoSuchSectorOfThePart(t *testing.T) {
	for _, count := range []int{1, 3} {
		for _, at := range append([]int{count, count + 1}, edges...) {
			if at >= 0 && at < count {
				continue
			}
			for _, power := range powers {
				d := newDisk(t, 7)
				p := newPart(t, d, 2, count)
				power(d)
				on := d.On()
				for _, data := range [][]byte{a, nil, a[:63], counted(0, 65)} {
					wantNoRead(t, p, at, api.ErrRange)
					wantCode(t, "Write of no such sector", p.Write(at, data), api.ErrRange)
				}
				if d.On() != on || len(d.Waiting()) != 0 {
					t.Errorf("Write(%d): On() = %t, Waiting() = %v", at, d.On(), d.Waiting())
				}
			}
		}
	}
}

func TestWriteOfOtherLengths(t *testing.T) {
	for n := range 2*api.SectorBytes + 2 {
		if n == api.SectorBytes {
			continue
		}
		for _, power := range powers {
			d := newDisk(t, 5)
			p := newPart(t, d, 1, 3)
			power(d)
			on := d.On()
			for _, at := range []int{0, 2} {
				wantCode(t, "Write of another length", p.Write(at, counted(0, n)), api.ErrArg)
			}
			if d.On() != on || len(d.Waiting()) != 0 {
				t.Errorf("Write of %d bytes: On() = %t, Waiting() = %v", n, d.On(), d.Waiting())
			}
		}
	}
}

func TestWithoutPower(t *testing.T) {
	d := newDisk(t, 5)
	p := newPart(t, d, 1, 3)
	write(t, p, 0, a)
	write(t, p, 1, b)
	d.Crash([]bool{false, true})
	for at := range 3 {
		wantNoRead(t, p, at, api.ErrPower)
		wantCode(t, "Write without power", p.Write(at, c), api.ErrPower)
	}
	wantCode(t, "Flush without power", p.Flush(), api.ErrPower)
	wantImage(t, p, marked(1), b, marked(3))
	if d.On() || p.Size() != 3 {
		t.Errorf("On() = %t, Size() = %d", d.On(), p.Size())
	}
	d.Power()
	wantWaiting(t, d)
	wantRead(t, p, 0, marked(1))
	wantRead(t, p, 1, b)
	write(t, p, 0, c)
	wantRead(t, d, 1, c)
}

func TestFlushIsThatOfTheWholeDisk(t *testing.T) {
	d := newDisk(t, 6)
	p, q := newPart(t, d, 0, 2), newPart(t, d, 3, 2)
	write(t, p, 1, a)
	write(t, q, 0, b)
	wantCode(t, "Write of the disk", d.Write(5, c), api.OK)
	wantWaiting(t, d, 1, 3, 5)
	wantCode(t, "Flush", p.Flush(), api.OK)
	wantWaiting(t, d)
	wantImage(t, d, marked(0), a, marked(2), b, marked(4), c)
	wantImage(t, p, marked(0), a)
	wantImage(t, q, b, marked(4))
	wantCode(t, "Flush with nothing pending", q.Flush(), api.OK)
	wantImage(t, d, marked(0), a, marked(2), b, marked(4), c)
}

func TestFlushOfAPartOfAPartAndOfTheDisk(t *testing.T) {
	for _, flush := range []func(d *disk.Disk, p, q *extent.Part) api.Errno{
		func(d *disk.Disk, p, q *extent.Part) api.Errno { return d.Flush() },
		func(d *disk.Disk, p, q *extent.Part) api.Errno { return p.Flush() },
		func(d *disk.Disk, p, q *extent.Part) api.Errno { return q.Flush() },
	} {
		d := newDisk(t, 4)
		p := newPart(t, d, 0, 3)
		q := inner(t, p, 1, 1)
		write(t, q, 0, a)
		write(t, q, 0, b)
		write(t, p, 2, c)
		wantCode(t, "Write of the disk", d.Write(3, a), api.OK)
		wantCode(t, "Flush", flush(d, p, q), api.OK)
		wantImage(t, d, marked(0), b, c, a)
	}
}

func TestImageBeforeAndAfterFlush(t *testing.T) {
	d := newDisk(t, 5)
	p := newPart(t, d, 1, 3)
	wantImage(t, p, marked(1), marked(2), marked(3))
	write(t, p, 1, a)
	write(t, p, 2, b)
	write(t, p, 2, c)
	wantImage(t, p, marked(1), marked(2), marked(3))
	wantCode(t, "Flush", p.Flush(), api.OK)
	wantImage(t, p, marked(1), a, c)
	write(t, p, 0, b)
	d.Crash(nil)
	wantImage(t, p, marked(1), a, c)
	d.Power()
	wantImage(t, p, marked(1), a, c)
	d.Load(bytes.Repeat(b, 5))
	wantImage(t, p, b, b, b)
}

func TestImageOfEachPart(t *testing.T) {
	const sectors = 7
	d := newDisk(t, sectors)
	for from := range sectors {
		for count := 1; from+count <= sectors; count++ {
			want := d.Image()[from*api.SectorBytes : (from+count)*api.SectorBytes]
			wantImage(t, newPart(t, d, from, count), want)
		}
	}
}

func TestAnImageHoldsNothingOfOtherSectors(t *testing.T) {
	d := newDisk(t, 9)
	p := newPart(t, d, 2, 3)
	image := p.Image()
	rest := image[len(image):cap(image)]
	if len(image) != 3*api.SectorBytes || bytes.ContainsFunc(rest, func(r rune) bool { return r != 0 }) {
		t.Errorf("behind the image stands %v", rest)
	}
}

func TestPartOfEachExtentOfAPart(t *testing.T) {
	const first, size = 3, 4
	d := newDisk(t, 10)
	p := newPart(t, d, first, size)
	for from := -first - 1; from <= size+4; from++ {
		for count := -2; count <= size+8; count++ {
			q, code := p.Part(of(from, count))
			if from < 0 || count < 1 || from+count > size {
				if q != nil || code != api.ErrArg {
					t.Errorf("Part of %d sectors from %d on = %v, %d", count, from, q, code)
				}
				continue
			}
			if code != api.OK || q.Size() != count {
				t.Fatalf("Part of %d sectors from %d on = %v, %d", count, from, q, code)
			}
			wantImage(t, q, d.Image()[(first+from)*api.SectorBytes:(first+from+count)*api.SectorBytes])
			for at := range count {
				wantRead(t, q, at, marked(first+from+at))
			}
			wantNoRead(t, q, -1, api.ErrRange)
			wantNoRead(t, q, count, api.ErrRange)
		}
	}
}

func TestPartOfExtentsThatDoNotLieOnIt(t *testing.T) {
	d := newDisk(t, 12)
	p := newPart(t, d, 3, 5)
	for _, from := range edges {
		for _, count := range edges {
			if extent.Lies(of(from, count), 5) {
				continue
			}
			if q, code := p.Part(of(from, count)); q != nil || code != api.ErrArg {
				t.Errorf("Part of %d sectors from %d on = %v, %d", count, from, q, code)
			}
		}
	}
	if p.Size() != 5 {
		t.Errorf("Size() = %d", p.Size())
	}
	wantImage(t, p, marked(3), marked(4), marked(5), marked(6), marked(7))
}

func TestPartOfAPartOfAPart(t *testing.T) {
	d := newDisk(t, 12)
	p := newPart(t, d, 2, 9)
	q := inner(t, p, 1, 7)
	r := inner(t, q, 2, 4)
	s := inner(t, r, 3, 1)
	wantImage(t, r, marked(5), marked(6), marked(7), marked(8))
	write(t, s, 0, a)
	for at, x := range map[int]reader{8: d, 6: p, 5: q, 3: r, 0: s} {
		wantRead(t, x, at, a)
	}
	write(t, r, 0, b)
	wantRead(t, d, 5, b)
	wantNoRead(t, s, 1, api.ErrRange)
	wantNoRead(t, r, 4, api.ErrRange)
	wantCode(t, "Write behind the end", s.Write(1, c), api.ErrRange)
	if x, code := r.Part(of(3, 2)); x != nil || code != api.ErrArg {
		t.Errorf("Part behind the end = %v, %d", x, code)
	}
	wantWaiting(t, d, 8, 5)
	wantCode(t, "Flush", s.Flush(), api.OK)
	wantImage(t, s, a)
	wantImage(t, r, b, marked(6), marked(7), a)
	wantImage(t, q, marked(3), marked(4), b, marked(6), marked(7), a, marked(9))
}

func TestPartOfAllSectors(t *testing.T) {
	d := newDisk(t, 5)
	p := newPart(t, d, 1, 3)
	q := inner(t, p, 0, 3)
	if q == p || q.Size() != 3 {
		t.Errorf("Part of all sectors = %v, of %v", q, p)
	}
	wantImage(t, q, marked(1), marked(2), marked(3))
	write(t, q, 2, a)
	wantRead(t, p, 2, a)
	whole := inner(t, newPart(t, d, 0, 5), 0, 5)
	wantRead(t, whole, 3, a)
	wantRead(t, whole, 4, marked(4))
}

func TestAnArmedDiskFailsInAWrite(t *testing.T) {
	for n := range 4 {
		d := newDisk(t, 5)
		p := newPart(t, d, 1, 3)
		d.Arm(n, []bool{true, false, true})
		for i := range n {
			write(t, p, i, a)
		}
		p.Read(0)
		p.Image()
		p.Write(3, a)
		p.Write(0, nil)
		wantCode(t, "Write of the power failure", p.Write(1, b), api.ErrPower)
		if d.On() {
			t.Errorf("armed with %d: On() = true", n)
		}
		want := [][]byte{marked(1), marked(2), marked(3)}
		for i := range n {
			if i != 1 {
				want[i] = a
			}
		}
		wantImage(t, p, want...)
		wantNoRead(t, p, 0, api.ErrPower)
	}
}

func TestAnArmedDiskFailsInAFlush(t *testing.T) {
	for _, survivors := range [][]bool{nil, {true}, {false, true}, {true, true}} {
		d := newDisk(t, 5)
		p := newPart(t, d, 1, 3)
		q := inner(t, p, 1, 2)
		d.Arm(2, survivors)
		write(t, p, 0, a)
		write(t, q, 1, b)
		wantCode(t, "Flush of the power failure", q.Flush(), api.ErrPower)
		want := [][]byte{marked(0), marked(1), marked(2), marked(3), marked(4)}
		if len(survivors) > 0 && survivors[0] {
			want[1] = a
		}
		if len(survivors) > 1 && survivors[1] {
			want[3] = b
		}
		wantImage(t, d, want...)
		wantCode(t, "Flush without power", p.Flush(), api.ErrPower)
		d.Power()
		wantRead(t, p, 0, want[1])
		wantRead(t, p, 2, want[3])
		wantCode(t, "Flush with power", p.Flush(), api.OK)
	}
}

// view is a part, and where a disk of the same content has its sectors.
type view struct {
	part        *extent.Part
	from, count int
}

// views returns parts of the disk, and parts of them.
func views(t *testing.T, d *disk.Disk) []view {
	whole, left, middle := newPart(t, d, 0, 8), newPart(t, d, 0, 3), newPart(t, d, 2, 5)
	deep := inner(t, middle, 1, 4)
	return []view{
		{whole, 0, 8}, {left, 0, 3}, {middle, 2, 5}, {deep, 3, 4}, {inner(t, deep, 3, 1), 6, 1}, {inner(t, left, 1, 2), 1, 2}, {newPart(t, d, 7, 1), 7, 1},
	}
}

func TestPartsDoAsTheDiskDoes(t *testing.T) {
	for start := range uint32(200) {
		seed := start
		next := func(n int) int {
			seed = seed*1664525 + 1013904223
			return int(seed>>16) % n
		}
		d, other := newDisk(t, 8), newDisk(t, 8)
		all := views(t, d)
		for range 60 {
			v := all[next(len(all))]
			at := next(v.count)
			data := counted(byte(next(256)), api.SectorBytes-next(8)/7)
			switch next(10) {
			case 0:
				wantCode(t, "Flush", v.part.Flush(), other.Flush())
			case 1:
				survivors := []bool{next(2) > 0, next(2) > 0, next(2) > 0}
				n := next(6)
				d.Arm(n, survivors)
				other.Arm(n, survivors)
			case 2:
				d.Power()
				other.Power()
			default:
				wantCode(t, "Write", v.part.Write(at, data), other.Write(v.from+at, data))
			}
			if d.On() != other.On() || !bytes.Equal(d.Image(), other.Image()) || !slices.Equal(d.Waiting(), other.Waiting()) {
				t.Fatalf("from %d on: the disk of the parts is not as the other one", start)
			}
			v = all[next(len(all))]
			wantSame(t, v, other)
		}
	}
}

// wantSame fails the test, unless a part reads and has what the disk does.
func wantSame(t *testing.T, v view, d *disk.Disk) {
	t.Helper()
	for at := range v.count {
		got, code := v.part.Read(at)
		want, wanted := d.Read(v.from + at)
		if code != wanted || !bytes.Equal(got, want) {
			t.Errorf("Read(%d) of %d sectors from %d on = %v, %d, not %v, %d", at, v.count, v.from, got, code, want, wanted)
		}
	}
	wantImage(t, v.part, d.Image()[v.from*api.SectorBytes:(v.from+v.count)*api.SectorBytes])
}

// P6.3: disjoint parts.

// owner is a part, and what must be in its sectors with the pending writes, and without.
type owner struct {
	part      *extent.Part
	read, has [][]byte
}

// newOwner returns the part of the disk that lies there.
func newOwner(t *testing.T, d *disk.Disk, from, count int) *owner {
	o := &owner{part: newPart(t, d, from, count)}
	for at := range count {
		o.read = append(o.read, marked(from+at))
		o.has = append(o.has, marked(from+at))
	}
	return o
}

// wantOwn fails the test, unless the part reads and has what was written through it alone.
func (o *owner) wantOwn(t *testing.T) {
	t.Helper()
	for at, want := range o.read {
		wantRead(t, o.part, at, want)
	}
	wantImage(t, o.part, o.has...)
}

func TestDisjointPartsHaveTheirOwn(t *testing.T) {
	d := newDisk(t, 12)
	owners := []*owner{newOwner(t, d, 1, 4), newOwner(t, d, 5, 1), newOwner(t, d, 7, 3), newOwner(t, d, 11, 1)}
	if !extent.Apart([]extent.Extent{of(1, 4), of(5, 1), of(7, 3), of(11, 1)}) {
		t.Fatal("the parts are not disjoint")
	}
	for i := range 400 {
		o := owners[i*7%11%len(owners)]
		at := i * 5 % 13
		data := counted(byte(i*37), api.SectorBytes)
		if at < len(o.read) {
			write(t, o.part, at, data)
			o.read[at] = data
		} else {
			wantCode(t, "Write behind the end", o.part.Write(at, data), api.ErrRange)
			wantCode(t, "Write ahead of the start", o.part.Write(-1-at, data), api.ErrRange)
		}
		if i%9 == 8 {
			wantCode(t, "Flush", o.part.Flush(), api.OK)
			for _, o := range owners {
				copy(o.has, o.read)
			}
		}
		for _, o := range owners {
			o.wantOwn(t)
		}
		for _, at := range []int{0, 6, 10} {
			wantRead(t, d, at, marked(at))
		}
	}
}

func TestSectorsOutsideAPartDoNotChange(t *testing.T) {
	const sectors = 6
	for from := range sectors {
		for count := 1; from+count <= sectors; count++ {
			d := newDisk(t, sectors)
			p := newPart(t, d, from, count)
			for at := -sectors; at <= 2*sectors; at++ {
				p.Write(at, a)
				p.Write(at, b[:63])
				p.Write(at, nil)
			}
			for at := range sectors {
				if at < from || at >= from+count {
					wantRead(t, d, at, marked(at))
				}
			}
			wantCode(t, "Flush", p.Flush(), api.OK)
			var want [][]byte
			for at := range sectors {
				if at < from || at >= from+count {
					want = append(want, marked(at))
				} else {
					want = append(want, a)
				}
			}
			wantImage(t, d, want...)
		}
	}
}

func TestSectorsOutsideAPartSurviveAPowerFailure(t *testing.T) {
	for n := range 7 {
		d := newDisk(t, 6)
		p := newPart(t, d, 2, 2)
		d.Arm(n, []bool{true, true, true, true, true})
		for i := range 3 {
			p.Write(0, counted(byte(i), api.SectorBytes))
			p.Write(1, counted(byte(i), api.SectorBytes))
		}
		p.Flush()
		if d.On() {
			t.Errorf("armed with %d: On() = true", n)
		}
		image := d.Image()
		if !bytes.Equal(image[:2*api.SectorBytes], slices.Concat(marked(0), marked(1))) || !bytes.Equal(image[4*api.SectorBytes:], slices.Concat(marked(4), marked(5))) {
			t.Errorf("armed with %d: Image() = %v", n, image)
		}
	}
}

func TestPartsOfTwoDisksAreIndependent(t *testing.T) {
	d, other := newDisk(t, 4), newDisk(t, 4)
	p, q := newPart(t, d, 1, 2), newPart(t, other, 1, 2)
	write(t, p, 0, a)
	wantRead(t, q, 0, marked(1))
	write(t, q, 1, b)
	wantCode(t, "Flush", p.Flush(), api.OK)
	wantWaiting(t, other, 2)
	wantImage(t, p, a, marked(2))
	d.Crash(nil)
	wantRead(t, q, 1, b)
	wantCode(t, "Flush", q.Flush(), api.OK)
	wantImage(t, q, marked(1), b)
}

// R3: arguments and results.

func TestExtentsAreNotModified(t *testing.T) {
	for _, last := range []extent.Extent{of(20, 1), of(0, 1), of(math.MinInt, math.MinInt)} {
		first := []extent.Extent{of(8, 2), of(5, 0), of(0, 2), of(4, -2), of(2, 2), last}
		whole := append(slices.Clone(first), of(77, 7), of(66, 6))
		list := whole[:len(first)]
		extent.Apart(list)
		extent.Apart(list)
		if !slices.Equal(list, first) || whole[len(first)] != of(77, 7) || whole[len(first)+1] != of(66, 6) {
			t.Errorf("%v became %v", first, whole)
		}
	}
}

func TestExtentsMayBeModifiedAfterwards(t *testing.T) {
	list := []extent.Extent{of(0, 2), of(2, 2)}
	for range 3 {
		if !extent.Apart(list) {
			t.Errorf("Apart(%v) = false", list)
		}
		list[1].From = 1
		if extent.Apart(list) {
			t.Errorf("Apart(%v) = true", list)
		}
		list[1].From = 2
	}
	x := of(1, 2)
	d := newDisk(t, 5)
	p, _ := extent.New(d, x)
	q, _ := p.Part(x)
	if q != nil {
		t.Error("Part behind the end")
	}
	x = of(0, 1)
	q, _ = p.Part(x)
	x = of(4, 1)
	if p.Size() != 2 || q.Size() != 1 || x != of(4, 1) {
		t.Errorf("Size() = %d, %d", p.Size(), q.Size())
	}
	wantRead(t, p, 0, marked(1))
	wantRead(t, q, 0, marked(1))
}

func TestWhatWasWrittenMayBeModified(t *testing.T) {
	d := newDisk(t, 4)
	p := newPart(t, d, 1, 3)
	q := inner(t, p, 1, 1)
	buffer := slices.Clone(a)
	write(t, p, 0, buffer)
	copy(buffer, b)
	write(t, q, 0, buffer)
	overwrite(buffer)
	wantRead(t, p, 0, a)
	wantRead(t, p, 1, b)
	wantCode(t, "Flush", p.Flush(), api.OK)
	clear(buffer)
	wantImage(t, p, a, b, marked(3))
}

func TestWhatIsWrittenIsNotModified(t *testing.T) {
	d := newDisk(t, 4)
	p := newPart(t, d, 1, 3)
	long := append(slices.Clone(a), c...)
	data := long[:api.SectorBytes]
	short := slices.Clone(b[:63])
	p.Write(0, data)
	p.Write(3, data)
	p.Write(0, short)
	p.Flush()
	p.Write(0, b)
	p.Write(1, data)
	p.Flush()
	d.Crash(nil)
	p.Write(0, data)
	if !bytes.Equal(long, slices.Concat(a, c)) || !bytes.Equal(short, b[:63]) || !bytes.Equal(b, counted(71, api.SectorBytes)) {
		t.Error("an argument was modified")
	}
}

func TestResultsMayBeModified(t *testing.T) {
	d := newDisk(t, 5)
	p := newPart(t, d, 1, 3)
	write(t, p, 0, a)
	wantCode(t, "Flush", p.Flush(), api.OK)
	write(t, p, 1, b)
	for range 2 {
		for at := range 3 {
			got, _ := p.Read(at)
			overwrite(got)
		}
		overwrite(p.Image())
		wantRead(t, p, 0, a)
		wantRead(t, p, 1, b)
		wantRead(t, p, 2, marked(3))
		wantImage(t, d, marked(0), a, marked(2), marked(3), marked(4))
	}
	wantCode(t, "Flush", p.Flush(), api.OK)
	overwrite(p.Image())
	got, _ := p.Read(1)
	overwrite(got)
	wantImage(t, d, marked(0), a, b, marked(3), marked(4))
}

func TestResultsStay(t *testing.T) {
	d := newDisk(t, 4)
	p := newPart(t, d, 1, 2)
	write(t, p, 0, a)
	read, _ := p.Read(0)
	image := p.Image()
	other := p.Image()
	overwrite(other)
	write(t, p, 0, b)
	wantCode(t, "Flush", p.Flush(), api.OK)
	flushed, _ := p.Read(0)
	d.Load(bytes.Repeat(c, 4))
	d.Crash(nil)
	if !bytes.Equal(read, a) || !bytes.Equal(image, slices.Concat(marked(1), marked(2))) || !bytes.Equal(flushed, b) {
		t.Errorf("results have changed: %v, %v, %v", read, image, flushed)
	}
}

func TestPartsAreIndependentObjects(t *testing.T) {
	d := newDisk(t, 6)
	p := newPart(t, d, 1, 4)
	first, second := inner(t, p, 0, 2), inner(t, p, 1, 2)
	again := inner(t, p, 0, 2)
	if first == again || first.Size() != 2 || second.Size() != 2 || p.Size() != 4 {
		t.Errorf("Part = %v, %v, %v, of %v", first, second, again, p)
	}
	wantImage(t, first, marked(1), marked(2))
	wantImage(t, second, marked(2), marked(3))
	wantImage(t, p, marked(1), marked(2), marked(3), marked(4))
}

// Examples of the chapter.

func TestExamples(t *testing.T) {
	if !extent.Lies(of(2, 3), 5) || extent.Lies(of(2, 4), 5) {
		t.Error("Lies")
	}
	if !extent.Apart([]extent.Extent{of(0, 2), of(2, 3)}) || extent.Apart([]extent.Extent{of(0, 3), of(2, 3)}) {
		t.Error("Apart")
	}
	if n, code := extent.Place(of(2, 3), 2); n != 4 || code != api.OK {
		t.Errorf("Place = %d, %d", n, code)
	}
	if n, code := extent.Place(of(2, 3), 3); n != 0 || code != api.ErrRange {
		t.Errorf("Place = %d, %d", n, code)
	}
}
