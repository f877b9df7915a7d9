package disk_test

import (
	"bytes"
	"math"
	"slices"
	"testing"

	"nacelle/api"
	"nacelle/disk"
)

// zeros is what a sector has at first.
var zeros = make([]byte, api.SectorBytes)

// a, b and c are contents of sectors, of which no two bytes at one place are the same.
var (
	a = counted(1, api.SectorBytes)
	b = counted(71, api.SectorBytes)
	c = counted(141, api.SectorBytes)
)

// nowhere are numbers of sectors that no disk has.
var nowhere = []int{-1, -2, -64, math.MinInt, math.MinInt + 1, api.MaxSectors, api.MaxSectors + 1, 1 << 32, math.MaxInt / 64, math.MaxInt/64 + 1, math.MaxInt - 1, math.MaxInt}

// counted returns n bytes that count up from first.
func counted(first byte, n int) []byte {
	list := make([]byte, n)
	for i := range list {
		list[i] = first + byte(i)
	}
	return list
}

// mixed returns n bytes of all kinds, others for another seed.
func mixed(n int, seed uint32) []byte {
	list := make([]byte, n)
	for i := range list {
		seed = seed*1664525 + 1013904223
		list[i] = byte(seed >> 24)
	}
	return list
}

// overwrite changes the bytes of list, and all the room behind them.
func overwrite(list []byte) {
	list = list[:cap(list)]
	for i := range list {
		list[i] ^= 255
	}
}

// inverse returns the bytes with all bits inverted.
func inverse(list []byte) []byte {
	other := slices.Clone(list)
	overwrite(other)
	return other
}

// flags returns the survivors that the bits of mask tell, from the lowest one on.
func flags(mask, n int) []bool {
	list := make([]bool, n)
	for i := range list {
		list[i] = mask>>i&1 == 1
	}
	return list
}

// newDisk returns a disk with so many sectors.
func newDisk(t *testing.T, sectors int) *disk.Disk {
	t.Helper()
	d, code := disk.New(sectors)
	if d == nil || code != api.OK {
		t.Fatalf("New(%d) = %v, %d", sectors, d, code)
	}
	return d
}

// write fails the test, unless the disk takes the write.
func write(t *testing.T, d *disk.Disk, at int, data []byte) {
	t.Helper()
	wantCode(t, "Write", d.Write(at, data), api.OK)
}

// flush fails the test, unless the disk can be flushed.
func flush(t *testing.T, d *disk.Disk) {
	t.Helper()
	wantCode(t, "Flush", d.Flush(), api.OK)
}

// wantCode fails the test, unless a call returned this code.
func wantCode(t *testing.T, call string, got, want api.Errno) {
	t.Helper()
	if got != want {
		t.Errorf("%s = %d, not %d", call, got, want)
	}
}

// wantRead fails the test, unless Read returns want.
func wantRead(t *testing.T, d *disk.Disk, at int, want []byte) {
	t.Helper()
	if got, code := d.Read(at); code != api.OK || !bytes.Equal(got, want) {
		t.Errorf("Read(%d) = %v, %d, not %v", at, got, code, want)
	}
}

// wantNoRead fails the test, unless Read returns this code and nothing else.
func wantNoRead(t *testing.T, d *disk.Disk, at int, want api.Errno) {
	t.Helper()
	if got, code := d.Read(at); code != want || len(got) != 0 {
		t.Errorf("Read(%d) = %v, %d, not %d", at, got, code, want)
	}
}

// wantHas fails the test, unless Has returns want.
func wantHas(t *testing.T, d *disk.Disk, at int, want []byte) {
	t.Helper()
	if got, code := d.Has(at); code != api.OK || !bytes.Equal(got, want) {
		t.Errorf("Has(%d) = %v, %d, not %v", at, got, code, want)
	}
}

// wantImage fails the test, unless the disk has these sectors, by Image and by Has.
func wantImage(t *testing.T, d *disk.Disk, sectors ...[]byte) {
	t.Helper()
	if got := d.Image(); !bytes.Equal(got, slices.Concat(sectors...)) {
		t.Errorf("Image() = %v, not %v", got, sectors)
	}
	for at, want := range sectors {
		wantHas(t, d, at, want)
	}
}

// wantWaiting fails the test, unless the writes to these sectors are pending.
func wantWaiting(t *testing.T, d *disk.Disk, want ...int) {
	t.Helper()
	if got := d.Waiting(); !slices.Equal(got, want) {
		t.Errorf("Waiting() = %v, not %v", got, want)
	}
}

// wantOff fails the test, unless the power is off, and the disk has these sectors; the calls that need power must be refused.
func wantOff(t *testing.T, d *disk.Disk, sectors ...[]byte) {
	t.Helper()
	if d.On() {
		t.Error("On() = true")
	}
	wantCode(t, "Write", d.Write(0, c), api.ErrPower)
	wantCode(t, "Flush", d.Flush(), api.ErrPower)
	wantWaiting(t, d)
	for at := range sectors {
		wantNoRead(t, d, at, api.ErrPower)
	}
	wantImage(t, d, sectors...)
	if d.Size() != len(sectors) {
		t.Errorf("Size() = %d, not %d", d.Size(), len(sectors))
	}
}

// wantOn fails the test, unless the power is on, no write is pending, and the disk has these sectors.
func wantOn(t *testing.T, d *disk.Disk, sectors ...[]byte) {
	t.Helper()
	if !d.On() {
		t.Error("On() = false")
	}
	wantWaiting(t, d)
	for at, want := range sectors {
		wantRead(t, d, at, want)
	}
	wantImage(t, d, sectors...)
	if d.Size() != len(sectors) {
		t.Errorf("Size() = %d, not %d", d.Size(), len(sectors))
	}
}

// wantUnarmed fails the test, unless many calls succeed; its writes are flushed.
func wantUnarmed(t *testing.T, d *disk.Disk) {
	t.Helper()
	for range 20 {
		write(t, d, 0, c)
		flush(t, d)
	}
	if !d.On() {
		t.Error("On() = false")
	}
}

// wantArmed fails the test, unless n calls succeed, and the next one does not; its writes go to sector 0.
func wantArmed(t *testing.T, d *disk.Disk, n int) {
	t.Helper()
	for i := range n {
		if i%2 == 0 {
			write(t, d, 0, c)
		} else {
			flush(t, d)
		}
	}
	if !d.On() {
		t.Errorf("On() = false after %d calls", n)
	}
	wantCode(t, "Write of the power failure", d.Write(0, c), api.ErrPower)
	if d.On() {
		t.Errorf("On() = true after the call behind %d of them", n)
	}
}

// P5.1: New, Size, On.

func TestNewOfEachSize(t *testing.T) {
	for sectors := 1; sectors <= api.MaxSectors; sectors++ {
		d := newDisk(t, sectors)
		if d.Size() != sectors || !d.On() || len(d.Waiting()) != 0 {
			t.Errorf("New(%d): %d sectors, power %v, pending %v", sectors, d.Size(), d.On(), d.Waiting())
		}
		if got := d.Image(); !bytes.Equal(got, make([]byte, sectors*api.SectorBytes)) {
			t.Errorf("New(%d): Image() = %v", sectors, got)
		}
		for at := range sectors {
			wantRead(t, d, at, zeros)
			wantHas(t, d, at, zeros)
		}
	}
}

func TestNewOfOtherSizes(t *testing.T) {
	for _, sectors := range []int{0, -1, -2, -64, -256, -257, math.MinInt, math.MinInt / 64, 257, 258, 512, 1 << 16, 1 << 32, 1<<32 + 1, 1 << 58, 1<<58 + 1, math.MaxInt / 64, math.MaxInt} {
		if d, code := disk.New(sectors); d != nil || code != api.ErrArg {
			t.Errorf("New(%d) = %v, %d, not %d", sectors, d, code, api.ErrArg)
		}
	}
}

func TestSizeStays(t *testing.T) {
	for _, sectors := range []int{1, 2, 255, 256} {
		d := newDisk(t, sectors)
		write(t, d, sectors-1, a)
		d.Crash([]bool{true})
		if d.Size() != sectors {
			t.Errorf("without power: Size() = %d, not %d", d.Size(), sectors)
		}
		d.Power()
		d.Load(make([]byte, sectors*api.SectorBytes))
		if d.Size() != sectors {
			t.Errorf("after Load: Size() = %d, not %d", d.Size(), sectors)
		}
	}
}

func TestOnTellsThePower(t *testing.T) {
	d := newDisk(t, 1)
	for range 3 {
		if !d.On() {
			t.Error("On() = false, with the power on")
		}
		d.Crash(nil)
		if d.On() {
			t.Error("On() = true, with the power off")
		}
		d.Power()
	}
}

func TestTwoDisksAreIndependent(t *testing.T) {
	one, two := newDisk(t, 2), newDisk(t, 2)
	write(t, one, 0, a)
	write(t, two, 1, b)
	wantWaiting(t, one, 0)
	wantWaiting(t, two, 1)
	flush(t, one)
	two.Arm(0, nil)
	wantUnarmed(t, one)
	one.Crash(nil)
	wantRead(t, two, 1, b)
	wantImage(t, two, zeros, zeros)
	wantImage(t, one, c, zeros)
}

// P5.2: Read, Write, Flush, Waiting.

func TestReadOfAPendingWrite(t *testing.T) {
	d := newDisk(t, 4)
	write(t, d, 3, a)
	wantRead(t, d, 3, a)
	wantHas(t, d, 3, zeros)
	wantWaiting(t, d, 3)
	wantImage(t, d, zeros, zeros, zeros, zeros)
	for at := range 3 {
		wantRead(t, d, at, zeros)
	}
	flush(t, d)
	wantOn(t, d, zeros, zeros, zeros, a)
}

func TestTheLastPendingWriteIsRead(t *testing.T) {
	d := newDisk(t, 3)
	for _, w := range []struct {
		at   int
		data []byte
	}{{1, a}, {2, c}, {1, b}, {0, a}, {1, c}, {2, b}, {1, a}} {
		write(t, d, w.at, w.data)
		wantRead(t, d, w.at, w.data)
		wantHas(t, d, w.at, zeros)
	}
	wantWaiting(t, d, 1, 2, 1, 0, 1, 2, 1)
	wantImage(t, d, zeros, zeros, zeros)
	wantRead(t, d, 0, a)
	wantRead(t, d, 1, a)
	wantRead(t, d, 2, b)
	flush(t, d)
	wantOn(t, d, a, a, b)
}

func TestAWriteOfWhatWasThereIsPendingToo(t *testing.T) {
	d := newDisk(t, 1)
	write(t, d, 0, a)
	flush(t, d)
	write(t, d, 0, b)
	write(t, d, 0, a)
	write(t, d, 0, zeros)
	wantWaiting(t, d, 0, 0, 0)
	wantRead(t, d, 0, zeros)
	wantHas(t, d, 0, a)
	flush(t, d)
	wantOn(t, d, zeros)
}

func TestReadAfterFlush(t *testing.T) {
	d := newDisk(t, 2)
	write(t, d, 0, a)
	flush(t, d)
	write(t, d, 1, b)
	wantRead(t, d, 0, a)
	wantRead(t, d, 1, b)
	wantImage(t, d, a, zeros)
	write(t, d, 0, c)
	wantRead(t, d, 0, c)
	wantImage(t, d, a, zeros)
	flush(t, d)
	wantOn(t, d, c, b)
}

func TestFlushWithNothingPending(t *testing.T) {
	d := newDisk(t, 2)
	for range 3 {
		flush(t, d)
		wantOn(t, d, zeros, zeros)
	}
	write(t, d, 1, a)
	for range 3 {
		flush(t, d)
		wantOn(t, d, zeros, a)
	}
}

func TestWriteOfEachLength(t *testing.T) {
	for n := range 200 {
		d := newDisk(t, 2)
		data := mixed(n, 1)
		if n == api.SectorBytes {
			write(t, d, 1, data)
			wantRead(t, d, 1, data)
			continue
		}
		wantCode(t, "Write of another length", d.Write(1, data), api.ErrArg)
		wantOn(t, d, zeros, zeros)
	}
}

func TestWriteOfNoBytes(t *testing.T) {
	d := newDisk(t, 1)
	for _, data := range [][]byte{nil, {}, make([]byte, 0, api.SectorBytes), a[64:]} {
		wantCode(t, "Write of no bytes", d.Write(0, data), api.ErrArg)
	}
	for _, data := range [][]byte{a[:63], append(slices.Clone(a), 0), make([]byte, 128), make([]byte, 1<<16)} {
		wantCode(t, "Write of another length", d.Write(0, data), api.ErrArg)
	}
	wantOn(t, d, zeros)
}

func TestEachSectorIsItsOwn(t *testing.T) {
	for _, sectors := range []int{1, 2, 3, 255, 256} {
		d := newDisk(t, sectors)
		var want [][]byte
		for at := range sectors {
			want = append(want, mixed(api.SectorBytes, uint32(at)))
		}
		for at := sectors - 1; at >= 0; at-- {
			write(t, d, at, want[at])
		}
		for at := range sectors {
			wantRead(t, d, at, want[at])
			wantHas(t, d, at, zeros)
		}
		flush(t, d)
		wantOn(t, d, want...)
	}
}

func TestNoSuchSector(t *testing.T) {
	for _, sectors := range []int{1, 2, 255, 256} {
		d := newDisk(t, sectors)
		write(t, d, 0, a)
		write(t, d, sectors-1, b)
		for _, at := range append([]int{sectors, sectors + 1}, nowhere...) {
			wantNoRead(t, d, at, api.ErrRange)
			wantCode(t, "Write", d.Write(at, c), api.ErrRange)
			if got, code := d.Has(at); len(got) != 0 || code != api.ErrRange {
				t.Errorf("Has(%d) of %d sectors = %v, %d", at, sectors, got, code)
			}
		}
		wantWaiting(t, d, 0, sectors-1)
		wantRead(t, d, sectors-1, b)
		flush(t, d)
		wantHas(t, d, sectors-1, b)
	}
}

func TestWhichErrorOfSeveralCounts(t *testing.T) {
	d := newDisk(t, 2)
	for range 2 {
		power := api.OK
		if !d.On() {
			power = api.ErrPower
		}
		for _, at := range append([]int{2, 3}, nowhere...) {
			for _, data := range [][]byte{nil, a[:63], a, append(slices.Clone(a), 1)} {
				wantCode(t, "Write beside the disk", d.Write(at, data), api.ErrRange)
			}
			wantNoRead(t, d, at, api.ErrRange)
			if got, code := d.Has(at); len(got) != 0 || code != api.ErrRange {
				t.Errorf("Has(%d) = %v, %d", at, got, code)
			}
		}
		for _, data := range [][]byte{nil, a[:63], append(slices.Clone(a), 1)} {
			wantCode(t, "Write of another length", d.Write(0, data), api.ErrArg)
			wantCode(t, "Write of another length", d.Write(1, data), api.ErrArg)
		}
		wantCode(t, "Write", d.Write(0, a), power)
		wantCode(t, "Flush", d.Flush(), power)
		d.Crash(nil)
	}
	wantOff(t, d, a, zeros)
}

func TestRefusedAlsoWhereThePowerWouldFail(t *testing.T) {
	d := newDisk(t, 2)
	write(t, d, 1, a)
	d.Arm(0, []bool{true})
	for range 3 {
		wantCode(t, "Write beside the disk", d.Write(2, b), api.ErrRange)
		wantCode(t, "Write beside the disk", d.Write(-1, b[:1]), api.ErrRange)
		wantCode(t, "Write of another length", d.Write(0, b[:63]), api.ErrArg)
		wantNoRead(t, d, 2, api.ErrRange)
		wantRead(t, d, 1, a)
	}
	wantWaiting(t, d, 1)
	wantCode(t, "Write of the power failure", d.Write(0, b), api.ErrPower)
	wantOff(t, d, zeros, a)
}

func TestWaitingKeepsTheOrder(t *testing.T) {
	d := newDisk(t, 256)
	wantWaiting(t, d)
	var order []int
	for i := range 600 {
		at := i * 37 % 256
		write(t, d, at, mixed(api.SectorBytes, uint32(i)))
		order = append(order, at)
		wantWaiting(t, d, order...)
	}
	flush(t, d)
	wantWaiting(t, d)
	for i := 600 - 256; i < 600; i++ {
		wantHas(t, d, i*37%256, mixed(api.SectorBytes, uint32(i)))
	}
}

// P5.3: Has, Crash, Arm, Power.

func TestCrashWithEachListOfFlags(t *testing.T) {
	at := []int{0, 1, 0, 2, 1}
	for n := range 8 {
		for mask := range 1 << n {
			d := newDisk(t, 3)
			want := [][]byte{zeros, zeros, zeros}
			for i, s := range at {
				data := mixed(api.SectorBytes, uint32(i))
				write(t, d, s, data)
				if i < n && mask>>i&1 == 1 {
					want[s] = data
				}
			}
			d.Crash(flags(mask, n))
			wantOff(t, d, want...)
			d.Power()
			wantOn(t, d, want...)
		}
	}
}

func TestCrashWithTwoWritesToOneSector(t *testing.T) {
	for _, x := range []struct {
		survivors []bool
		want      []byte
	}{
		{nil, c}, {[]bool{}, c}, {[]bool{false}, c}, {[]bool{false, false}, c},
		{[]bool{true}, a}, {[]bool{true, false}, a}, {[]bool{true, false, true}, a},
		{[]bool{false, true}, b}, {[]bool{false, true, true}, b},
		{[]bool{true, true}, b}, {[]bool{true, true, true, true}, b},
		{[]bool{false, false, true}, c},
	} {
		d := newDisk(t, 2)
		write(t, d, 1, c)
		flush(t, d)
		write(t, d, 1, a)
		write(t, d, 1, b)
		d.Crash(x.survivors)
		wantOff(t, d, zeros, x.want)
	}
}

func TestCrashWithNothingPending(t *testing.T) {
	d := newDisk(t, 2)
	write(t, d, 0, a)
	flush(t, d)
	d.Crash([]bool{true, true, true})
	wantOff(t, d, a, zeros)
	d.Power()
	wantOn(t, d, a, zeros)
}

func TestCrashWhenThePowerIsOff(t *testing.T) {
	d := newDisk(t, 2)
	write(t, d, 0, a)
	write(t, d, 1, b)
	d.Crash([]bool{true})
	for _, survivors := range [][]bool{nil, {true}, {true, true}, {false, true}} {
		d.Crash(survivors)
		wantOff(t, d, a, zeros)
	}
	d.Power()
	wantOn(t, d, a, zeros)
	wantUnarmed(t, d)
}

func TestWhatWasRefusedWithoutPowerIsNotPending(t *testing.T) {
	d := newDisk(t, 2)
	d.Crash(nil)
	wantCode(t, "Write", d.Write(0, a), api.ErrPower)
	wantCode(t, "Write", d.Write(1, a), api.ErrPower)
	wantCode(t, "Flush", d.Flush(), api.ErrPower)
	d.Crash([]bool{true, true})
	wantOff(t, d, zeros, zeros)
	d.Power()
	wantOn(t, d, zeros, zeros)
	flush(t, d)
	wantOn(t, d, zeros, zeros)
}

func TestHasWithoutPower(t *testing.T) {
	d := newDisk(t, 256)
	write(t, d, 255, a)
	flush(t, d)
	write(t, d, 255, b)
	d.Crash(nil)
	wantHas(t, d, 255, a)
	wantHas(t, d, 254, zeros)
	for _, at := range nowhere {
		if got, code := d.Has(at); len(got) != 0 || code != api.ErrRange {
			t.Errorf("Has(%d) = %v, %d", at, got, code)
		}
	}
}

func TestPowerWhenItIsOn(t *testing.T) {
	d := newDisk(t, 2)
	d.Power()
	wantOn(t, d, zeros, zeros)
	write(t, d, 0, a)
	flush(t, d)
	write(t, d, 0, b)
	write(t, d, 1, b)
	d.Power()
	wantOn(t, d, a, zeros)
	flush(t, d)
	wantOn(t, d, a, zeros)
}

func TestPowerTwice(t *testing.T) {
	d := newDisk(t, 1)
	write(t, d, 0, a)
	d.Crash([]bool{true})
	d.Power()
	d.Power()
	wantOn(t, d, a)
	write(t, d, 0, b)
	wantRead(t, d, 0, b)
	flush(t, d)
	wantOn(t, d, b)
}

func TestArmWithEachNumber(t *testing.T) {
	for n := range 40 {
		d := newDisk(t, 1)
		d.Arm(n, nil)
		wantArmed(t, d, n)
		d.Power()
		wantUnarmed(t, d)
	}
}

func TestArmWithMoreCallsThanFollow(t *testing.T) {
	for _, n := range []int{41, 1000, 1 << 32, math.MaxInt - 1, math.MaxInt} {
		d := newDisk(t, 1)
		d.Arm(n, []bool{true})
		wantUnarmed(t, d)
		wantOn(t, d, c)
	}
}

func TestArmWithANumberBelowZero(t *testing.T) {
	for _, n := range []int{-1, -2, math.MinInt + 1, math.MinInt} {
		d := newDisk(t, 1)
		d.Arm(n, []bool{true})
		wantUnarmed(t, d)
		for calls := range 3 {
			d.Arm(calls, []bool{true})
			d.Arm(n, []bool{true})
			wantUnarmed(t, d)
		}
		wantOn(t, d, c)
	}
}

func TestArmChangesNothingAtOnce(t *testing.T) {
	d := newDisk(t, 2)
	write(t, d, 0, a)
	for _, n := range []int{0, 1, -1, 7} {
		d.Arm(n, []bool{true})
		wantWaiting(t, d, 0)
		wantRead(t, d, 0, a)
		wantRead(t, d, 1, zeros)
		wantImage(t, d, zeros, zeros)
		if !d.On() {
			t.Errorf("Arm(%d): On() = false", n)
		}
	}
}

func TestArmAnewCountsAnew(t *testing.T) {
	for first := range 6 {
		for done := range first + 1 {
			for second := range 6 {
				d := newDisk(t, 2)
				write(t, d, 1, a)
				d.Arm(first, nil)
				for range done {
					write(t, d, 1, b)
				}
				d.Arm(second, []bool{true})
				wantArmed(t, d, second)
			}
		}
	}
}

func TestArmAnewTakesTheNewSurvivors(t *testing.T) {
	d := newDisk(t, 2)
	d.Arm(2, []bool{true, true})
	write(t, d, 0, a)
	d.Arm(1, []bool{false, true})
	write(t, d, 1, b)
	wantCode(t, "Flush", d.Flush(), api.ErrPower)
	wantOff(t, d, zeros, b)
}

func TestArmWhenThePowerIsOff(t *testing.T) {
	for _, n := range []int{-1, 0, 1, 2, 40} {
		d := newDisk(t, 1)
		write(t, d, 0, a)
		d.Crash([]bool{true})
		d.Arm(n, []bool{true})
		wantOff(t, d, a)
		d.Power()
		wantOn(t, d, a)
		wantUnarmed(t, d)
	}
}

func TestReadsAreNotCounted(t *testing.T) {
	d := newDisk(t, 1)
	d.Arm(2, nil)
	for range 2 {
		for range 5 {
			wantRead(t, d, 0, zeros)
			wantNoRead(t, d, 1, api.ErrRange)
			wantHas(t, d, 0, zeros)
			d.Waiting()
			d.Image()
			d.Size()
			d.On()
			d.Load(nil)
			d.Load(zeros)
		}
		flush(t, d)
	}
	wantCode(t, "Flush", d.Flush(), api.ErrPower)
	wantOff(t, d, zeros)
}

func TestRefusedCallsAreNotCounted(t *testing.T) {
	for n := range 6 {
		d := newDisk(t, 2)
		d.Arm(n, []bool{true})
		for range n {
			wantCode(t, "Write beside the disk", d.Write(2, a), api.ErrRange)
			wantCode(t, "Write beside the disk", d.Write(-1, nil), api.ErrRange)
			wantCode(t, "Write of another length", d.Write(1, a[1:]), api.ErrArg)
			write(t, d, 1, a)
			wantCode(t, "Write of another length", d.Write(0, append(slices.Clone(a), 1)), api.ErrArg)
		}
		wantCode(t, "Write beside the disk", d.Write(2, a), api.ErrRange)
		wantCode(t, "Write of the power failure", d.Write(1, b), api.ErrPower)
		want := zeros
		if n > 0 {
			want = a
		}
		wantOff(t, d, zeros, want)
	}
}

func TestPowerFailureAtAWrite(t *testing.T) {
	for mask := range 8 {
		d := newDisk(t, 3)
		write(t, d, 2, c)
		flush(t, d)
		d.Arm(2, flags(mask, 3))
		write(t, d, 0, a)
		write(t, d, 1, b)
		wantWaiting(t, d, 0, 1)
		wantCode(t, "Write of the power failure", d.Write(2, a), api.ErrPower)
		// What was to be written when the power failed is not pending: no flag lets it survive.
		want := [][]byte{zeros, zeros, c}
		if mask&1 != 0 {
			want[0] = a
		}
		if mask&2 != 0 {
			want[1] = b
		}
		wantOff(t, d, want...)
		d.Power()
		wantOn(t, d, want...)
		wantUnarmed(t, d)
	}
}

func TestPowerFailureAtAFlush(t *testing.T) {
	for mask := range 8 {
		d := newDisk(t, 2)
		write(t, d, 1, c)
		d.Arm(2, flags(mask, 3))
		write(t, d, 0, a)
		write(t, d, 1, b)
		wantWaiting(t, d, 1, 0, 1)
		wantCode(t, "Flush of the power failure", d.Flush(), api.ErrPower)
		want := [][]byte{zeros, zeros}
		if mask&1 != 0 {
			want[1] = c
		}
		if mask&2 != 0 {
			want[0] = a
		}
		if mask&4 != 0 {
			want[1] = b
		}
		wantOff(t, d, want...)
		d.Power()
		wantOn(t, d, want...)
		wantUnarmed(t, d)
	}
}

func TestFlagsCountThePendingWritesOnly(t *testing.T) {
	d := newDisk(t, 3)
	d.Arm(4, []bool{false, true})
	write(t, d, 0, a)
	flush(t, d)
	write(t, d, 1, b)
	write(t, d, 2, b)
	wantCode(t, "Flush of the power failure", d.Flush(), api.ErrPower)
	wantOff(t, d, a, zeros, b)
}

func TestPowerFailureWithNothingPending(t *testing.T) {
	d := newDisk(t, 1)
	d.Arm(0, []bool{true, true})
	wantCode(t, "Flush", d.Flush(), api.ErrPower)
	wantOff(t, d, zeros)
	d.Power()
	d.Arm(0, []bool{true, true})
	wantCode(t, "Write", d.Write(0, a), api.ErrPower)
	wantOff(t, d, zeros)
}

func TestNotArmedAfterACrash(t *testing.T) {
	for n := range 5 {
		d := newDisk(t, 2)
		d.Arm(n, []bool{true})
		d.Crash(nil)
		wantOff(t, d, zeros, zeros)
		d.Power()
		wantUnarmed(t, d)
	}
}

func TestACrashTakesItsOwnSurvivors(t *testing.T) {
	d := newDisk(t, 2)
	d.Arm(2, []bool{true, true})
	write(t, d, 0, a)
	write(t, d, 1, b)
	d.Crash([]bool{false, true})
	wantOff(t, d, zeros, b)
}

func TestNotArmedAfterPower(t *testing.T) {
	for n := range 5 {
		d := newDisk(t, 2)
		d.Arm(n, []bool{true})
		for range n {
			write(t, d, 1, a)
		}
		d.Power()
		wantOn(t, d, zeros, zeros)
		wantUnarmed(t, d)
	}
}

func TestArmedTimeAndAgain(t *testing.T) {
	d := newDisk(t, 2)
	for n := range 10 {
		d.Arm(n, nil)
		wantArmed(t, d, n)
		d.Power()
	}
}

// P5.4: Image, Load.

func TestImageIsTheContentOfAllSectors(t *testing.T) {
	d := newDisk(t, 3)
	write(t, d, 2, a)
	wantImage(t, d, zeros, zeros, zeros)
	flush(t, d)
	wantImage(t, d, zeros, zeros, a)
	write(t, d, 0, b)
	write(t, d, 2, c)
	wantImage(t, d, zeros, zeros, a)
	d.Crash([]bool{true})
	wantImage(t, d, b, zeros, a)
	d.Power()
	wantImage(t, d, b, zeros, a)
}

func TestLoadOfAnotherLength(t *testing.T) {
	for _, sectors := range []int{1, 2, 256} {
		d := newDisk(t, sectors)
		whole := sectors * api.SectorBytes
		write(t, d, sectors-1, a)
		for _, n := range []int{0, 1, 63, 64, 65, 128, whole - 64, whole - 1, whole + 1, whole + 64, 2 * whole, 1 << 15} {
			if n == whole {
				continue
			}
			wantCode(t, "Load of another length", d.Load(mixed(n, 2)), api.ErrArg)
			wantWaiting(t, d, sectors-1)
			wantRead(t, d, sectors-1, a)
			wantHas(t, d, sectors-1, zeros)
		}
		flush(t, d)
		wantHas(t, d, sectors-1, a)
	}
}

func TestLoadGivesTheContent(t *testing.T) {
	for _, sectors := range []int{1, 2, 3, 256} {
		d := newDisk(t, sectors)
		for seed := range uint32(3) {
			image := mixed(sectors*api.SectorBytes, seed)
			wantCode(t, "Load", d.Load(image), api.OK)
			var want [][]byte
			for s := range slices.Chunk(image, api.SectorBytes) {
				want = append(want, s)
			}
			wantOn(t, d, want...)
		}
	}
}

func TestLoadDropsPendingWrites(t *testing.T) {
	d := newDisk(t, 2)
	write(t, d, 0, a)
	write(t, d, 1, b)
	write(t, d, 0, b)
	wantCode(t, "Load", d.Load(slices.Concat(c, a)), api.OK)
	wantOn(t, d, c, a)
	flush(t, d)
	wantOn(t, d, c, a)
	write(t, d, 1, b)
	wantWaiting(t, d, 1)
	d.Crash([]bool{true, true, true})
	wantOff(t, d, c, b)
}

func TestLoadWithoutPower(t *testing.T) {
	d := newDisk(t, 2)
	write(t, d, 0, b)
	d.Crash(nil)
	wantCode(t, "Load of another length", d.Load(a), api.ErrArg)
	wantOff(t, d, zeros, zeros)
	wantCode(t, "Load", d.Load(slices.Concat(a, c)), api.OK)
	wantOff(t, d, a, c)
	d.Crash([]bool{true})
	wantOff(t, d, a, c)
	d.Power()
	wantOn(t, d, a, c)
}

func TestLoadLeavesTheDiskArmed(t *testing.T) {
	for n := range 6 {
		for done := range n + 1 {
			d := newDisk(t, 2)
			d.Arm(n, []bool{true})
			for range done {
				write(t, d, 1, a)
			}
			wantCode(t, "Load of another length", d.Load(a), api.ErrArg)
			wantCode(t, "Load", d.Load(slices.Concat(a, b)), api.OK)
			wantOn(t, d, a, b)
			wantArmed(t, d, n-done)
		}
	}
}

func TestLoadLeavesTheSurvivors(t *testing.T) {
	d := newDisk(t, 3)
	d.Arm(3, []bool{false, true})
	write(t, d, 0, b)
	wantCode(t, "Load", d.Load(slices.Concat(a, a, a)), api.OK)
	write(t, d, 1, b)
	write(t, d, 2, c)
	wantCode(t, "Flush of the power failure", d.Flush(), api.ErrPower)
	wantOff(t, d, a, a, c)
}

func TestAnImageMakesTheSameContent(t *testing.T) {
	for _, sectors := range []int{1, 2, 100, 256} {
		one, two := newDisk(t, sectors), newDisk(t, sectors)
		for i := range 2 * sectors {
			write(t, one, i*i%sectors, mixed(api.SectorBytes, uint32(i)))
			write(t, two, i%sectors, a)
		}
		flush(t, one)
		write(t, one, 0, zeros)
		wantCode(t, "Load", two.Load(one.Image()), api.OK)
		if !bytes.Equal(two.Image(), one.Image()) {
			t.Errorf("%d sectors: not the same content", sectors)
		}
		for at := range sectors {
			want, _ := one.Has(at)
			wantHas(t, two, at, want)
			wantRead(t, two, at, want)
		}
		wantCode(t, "Load of its own image", one.Load(one.Image()), api.OK)
		if !bytes.Equal(two.Image(), one.Image()) || len(one.Waiting()) != 0 {
			t.Errorf("%d sectors: not the same content", sectors)
		}
	}
}

// P5.5: what changes the content, and what an armed disk ends up as.

// pair is a sector, and what it is to have.
type pair struct {
	at   int
	data []byte
}

// model tells what a disk must do, from the chapter's words, one after the other.
type model struct {
	sectors   [][]byte
	pending   []pair
	on, armed bool
	left      int
	survivors []bool
}

// step is a call, of the disk and of the model.
type step struct {
	name  string
	real  func(d *disk.Disk) api.Errno
	ideal func(m *model) api.Errno
}

// fails tells whether the power of the model is off, or fails now.
func (m *model) fails() bool {
	switch {
	case !m.on:
		return true
	case !m.armed:
		return false
	case m.left > 0:
		m.left--
		return false
	}
	m.crash(m.survivors)
	return true
}

func (m *model) write(at int, data []byte) api.Errno {
	switch {
	case at < 0 || at >= len(m.sectors):
		return api.ErrRange
	case len(data) != 64:
		return api.ErrArg
	case m.fails():
		return api.ErrPower
	}
	m.pending = append(m.pending, pair{at, data})
	return api.OK
}

func (m *model) flush() api.Errno {
	if m.fails() {
		return api.ErrPower
	}
	for _, w := range m.pending {
		m.sectors[w.at] = w.data
	}
	m.pending = nil
	return api.OK
}

func (m *model) crash(survivors []bool) {
	if !m.on {
		return
	}
	for i, w := range m.pending {
		if i < len(survivors) && survivors[i] {
			m.sectors[w.at] = w.data
		}
	}
	m.pending, m.on, m.armed = nil, false, false
}

func (m *model) arm(n int, survivors []bool) {
	if m.on {
		m.armed, m.left, m.survivors = n >= 0, n, survivors
	}
}

func (m *model) power() {
	m.pending, m.on, m.armed = nil, true, false
}

func (m *model) load(image []byte) api.Errno {
	if len(image) != 64*len(m.sectors) {
		return api.ErrArg
	}
	for i := range m.sectors {
		m.sectors[i] = image[64*i : 64*i+64]
	}
	m.pending = nil
	return api.OK
}

// newModel returns a model of a new disk.
func newModel(sectors int) *model {
	m := &model{on: true}
	for range sectors {
		m.sectors = append(m.sectors, zeros)
	}
	return m
}

// describes tells whether the disk shows itself to be as the model is.
func (m *model) describes(d *disk.Disk) bool {
	var waiting []int
	shown := slices.Clone(m.sectors)
	for _, w := range m.pending {
		waiting = append(waiting, w.at)
		shown[w.at] = w.data
	}
	if d.On() != m.on || d.Size() != len(m.sectors) || !slices.Equal(d.Waiting(), waiting) || !bytes.Equal(d.Image(), slices.Concat(m.sectors...)) {
		return false
	}
	for at, content := range m.sectors {
		got, code := d.Has(at)
		if code != api.OK || !bytes.Equal(got, content) {
			return false
		}
		got, code = d.Read(at)
		if m.on && (code != api.OK || !bytes.Equal(got, shown[at])) || !m.on && (code != api.ErrPower || len(got) != 0) {
			return false
		}
	}
	return true
}

func stepWrite(at int, data []byte) step {
	return step{"Write", func(d *disk.Disk) api.Errno { return d.Write(at, data) }, func(m *model) api.Errno { return m.write(at, data) }}
}

func stepFlush() step {
	return step{"Flush", func(d *disk.Disk) api.Errno { return d.Flush() }, func(m *model) api.Errno { return m.flush() }}
}

func stepCrash(survivors ...bool) step {
	return step{"Crash", func(d *disk.Disk) api.Errno { d.Crash(survivors); return api.OK }, func(m *model) api.Errno { m.crash(survivors); return api.OK }}
}

func stepArm(n int, survivors ...bool) step {
	return step{"Arm", func(d *disk.Disk) api.Errno { d.Arm(n, survivors); return api.OK }, func(m *model) api.Errno { m.arm(n, survivors); return api.OK }}
}

func stepPower() step {
	return step{"Power", func(d *disk.Disk) api.Errno { d.Power(); return api.OK }, func(m *model) api.Errno { m.power(); return api.OK }}
}

func stepLoad(image []byte) step {
	return step{"Load", func(d *disk.Disk) api.Errno { return d.Load(image) }, func(m *model) api.Errno { return m.load(image) }}
}

// wantAsModel fails the test, unless a disk with two sectors does the steps as the model does.
func wantAsModel(t *testing.T, steps []step) {
	t.Helper()
	d, m := newDisk(t, 2), newModel(2)
	for i, s := range steps {
		got, want := s.real(d), s.ideal(m)
		if got != want || !m.describes(d) {
			var names []string
			for _, done := range steps[:i+1] {
				names = append(names, done.name)
			}
			t.Fatalf("after %v: %d, not %d; power %v, pending %v, image %v", names, got, want, d.On(), d.Waiting(), d.Image())
		}
	}
}

// steps are calls of all kinds.
func steps() []step {
	return []step{
		stepWrite(0, a), stepWrite(0, b), stepWrite(1, c), stepWrite(2, a), stepWrite(1, a[:63]),
		stepFlush(),
		stepCrash(), stepCrash(true), stepCrash(false, true),
		stepArm(0, true), stepArm(1, false, true), stepArm(2), stepArm(-1, true),
		stepPower(),
		stepLoad(slices.Concat(b, c)), stepLoad(a),
	}
}

func TestAllSequencesOfFourCalls(t *testing.T) {
	all := steps()
	n := len(all)
	for i := range n * n * n * n {
		wantAsModel(t, []step{all[i%n], all[i/n%n], all[i/n/n%n], all[i/n/n/n]})
	}
}

func TestLongSequencesOfCalls(t *testing.T) {
	// Power comes more often, so that most calls find it on.
	all := append(steps(), stepWrite(1, a), stepWrite(1, b), stepFlush(), stepArm(3, true, true, true), stepPower(), stepPower(), stepPower())
	for seed := range uint32(400) {
		var list []step
		for _, r := range mixed(300, seed) {
			list = append(list, all[int(r)%len(all)])
		}
		wantAsModel(t, list)
	}
}

// script are calls of Write and Flush that succeed, as long as there is power.
func script() []step {
	return []step{
		stepWrite(0, a), stepWrite(1, b), stepFlush(), stepWrite(1, c), stepWrite(1, a), stepWrite(0, b), stepFlush(), stepFlush(), stepWrite(0, c), stepWrite(1, b),
	}
}

func TestAnArmedDiskEndsUpAsIfThePowerHadFailed(t *testing.T) {
	for n := range len(script()) {
		for mask := range 8 {
			armed, other := newDisk(t, 2), newDisk(t, 2)
			armed.Arm(n, flags(mask, 3))
			for i, s := range script() {
				if i == n {
					other.Crash(flags(mask, 3))
				}
				want := s.real(other)
				wantCode(t, s.name, s.real(armed), want)
				if !bytes.Equal(armed.Image(), other.Image()) || armed.On() != other.On() || !slices.Equal(armed.Waiting(), other.Waiting()) {
					t.Errorf("armed with %d, survivors %v: after call %d not the same", n, flags(mask, 3), i)
				}
			}
			if armed.On() {
				t.Errorf("armed with %d: On() = true", n)
			}
		}
	}
}

func TestContentChangesOnlyWhereItWasWritten(t *testing.T) {
	const sectors = 16
	before := mixed(sectors*api.SectorBytes, 5)
	for at := range sectors {
		for _, end := range []step{stepFlush(), stepCrash(true, true), stepPower(), stepArm(0, true)} {
			d := newDisk(t, sectors)
			d.Load(before)
			write(t, d, at, a)
			write(t, d, at, b)
			if !bytes.Equal(d.Image(), before) {
				t.Errorf("a Write to sector %d changes the content", at)
			}
			end.real(d)
			d.Flush()
			want := slices.Clone(before)
			switch end.name {
			case "Flush", "Crash":
				copy(want[at*api.SectorBytes:], b)
			case "Arm":
				copy(want[at*api.SectorBytes:], a)
			}
			if !bytes.Equal(d.Image(), want) {
				t.Errorf("Write to sector %d, %s: Image() = %v", at, end.name, d.Image())
			}
		}
	}
}

// R3: arguments and results.

func TestWhatWasWrittenMayBeModified(t *testing.T) {
	d := newDisk(t, 2)
	data := slices.Clone(a)
	write(t, d, 1, data)
	overwrite(data)
	wantRead(t, d, 1, a)
	write(t, d, 0, data)
	overwrite(data)
	flush(t, d)
	overwrite(data)
	wantImage(t, d, inverse(a), a)
}

func TestOneArgumentForSeveralWrites(t *testing.T) {
	d := newDisk(t, 3)
	buffer := make([]byte, api.SectorBytes)
	for at, data := range [][]byte{a, b, c} {
		copy(buffer, data)
		write(t, d, at, buffer)
	}
	wantRead(t, d, 0, a)
	wantRead(t, d, 1, b)
	flush(t, d)
	clear(buffer)
	wantOn(t, d, a, b, c)
}

func TestSurvivorsMayBeModified(t *testing.T) {
	for _, first := range [][]bool{{true, false, true}, {false, true, false}} {
		survivors := slices.Clone(first)
		d := newDisk(t, 3)
		d.Arm(3, survivors)
		for i := range survivors {
			survivors[i] = !survivors[i]
			write(t, d, i, a)
		}
		wantCode(t, "Flush of the power failure", d.Flush(), api.ErrPower)
		want := [][]byte{zeros, zeros, zeros}
		for i, survives := range first {
			if survives {
				want[i] = a
			}
		}
		wantOff(t, d, want...)
	}
}

func TestSurvivorsOfACrashMayBeModified(t *testing.T) {
	survivors := []bool{true, false}
	d := newDisk(t, 2)
	write(t, d, 0, a)
	write(t, d, 1, b)
	d.Crash(survivors)
	survivors[0], survivors[1] = false, true
	wantOff(t, d, a, zeros)
	d.Power()
	write(t, d, 0, b)
	write(t, d, 1, b)
	d.Crash(nil)
	wantOff(t, d, a, zeros)
}

func TestAnImageThatWasLoadedMayBeModified(t *testing.T) {
	image := slices.Concat(a, b)
	d := newDisk(t, 2)
	wantCode(t, "Load", d.Load(image), api.OK)
	overwrite(image)
	wantOn(t, d, a, b)
	write(t, d, 0, c)
	flush(t, d)
	if !bytes.Equal(image, slices.Concat(inverse(a), inverse(b))) {
		t.Error("a write changes the image that was loaded")
	}
}

func TestArgumentsAreNotModified(t *testing.T) {
	data, image, survivors := slices.Clone(a), slices.Concat(b, c), []bool{true, false, true}
	d := newDisk(t, 2)
	d.Load(image)
	d.Arm(2, survivors)
	write(t, d, 0, data)
	write(t, d, 1, data)
	d.Flush()
	d.Power()
	write(t, d, 1, data)
	write(t, d, 1, c)
	flush(t, d)
	write(t, d, 0, data)
	d.Crash(survivors)
	d.Crash(survivors)
	d.Power()
	if !bytes.Equal(data, a) || !bytes.Equal(image, slices.Concat(b, c)) || !slices.Equal(survivors, []bool{true, false, true}) {
		t.Error("an argument was modified")
	}
}

func TestResultsMayBeModified(t *testing.T) {
	d := newDisk(t, 2)
	write(t, d, 0, a)
	flush(t, d)
	write(t, d, 1, b)
	write(t, d, 0, c)
	for range 2 {
		for at := range 2 {
			got, _ := d.Read(at)
			overwrite(got)
			got, _ = d.Has(at)
			overwrite(got)
		}
		overwrite(d.Image())
		waiting := d.Waiting()
		for i := range waiting[:cap(waiting)] {
			waiting[:cap(waiting)][i] = 9
		}
		wantRead(t, d, 0, c)
		wantRead(t, d, 1, b)
		wantImage(t, d, a, zeros)
		wantWaiting(t, d, 1, 0)
	}
	flush(t, d)
	wantOn(t, d, c, b)
	for at := range 2 {
		got, _ := d.Read(at)
		overwrite(got)
	}
	wantOn(t, d, c, b)
}

func TestResultsStay(t *testing.T) {
	d := newDisk(t, 2)
	write(t, d, 0, a)
	read, _ := d.Read(0)
	has, _ := d.Has(0)
	image, waiting := d.Image(), d.Waiting()
	write(t, d, 0, b)
	flush(t, d)
	write(t, d, 1, c)
	flushed, _ := d.Read(0)
	d.Load(slices.Concat(c, c))
	d.Crash(nil)
	if !bytes.Equal(read, a) || !bytes.Equal(has, zeros) || !bytes.Equal(image, slices.Concat(zeros, zeros)) || !slices.Equal(waiting, []int{0}) || !bytes.Equal(flushed, b) {
		t.Errorf("results have changed: %v, %v, %v, %v, %v", read, has, image, waiting, flushed)
	}
}

func TestResultsShareNothing(t *testing.T) {
	d := newDisk(t, 1)
	write(t, d, 0, a)
	for range 2 {
		one, _ := d.Read(0)
		two, _ := d.Read(0)
		overwrite(one)
		if !bytes.Equal(two, a) {
			t.Errorf("a second Read(0) = %v", two)
		}
		flush(t, d)
	}
}

// Examples of the chapter.

func TestExamples(t *testing.T) {
	d := newDisk(t, 4)
	write(t, d, 3, a)
	wantRead(t, d, 3, a)
	wantHas(t, d, 3, zeros)
	flush(t, d)
	wantHas(t, d, 3, a)

	d = newDisk(t, 4)
	write(t, d, 3, a)
	write(t, d, 3, b)
	d.Crash([]bool{true})
	wantHas(t, d, 3, a)
	wantNoRead(t, d, 3, api.ErrPower)

	d = newDisk(t, 4)
	d.Arm(1, nil)
	write(t, d, 0, a)
	wantCode(t, "Flush", d.Flush(), api.ErrPower)
	d.Power()
	wantRead(t, d, 0, zeros)
}
