package filter_test

import (
	"bytes"
	"errors"
	"math"
	"math/big"
	"math/rand"
	"reflect"
	"slices"
	"testing"

	"nacelle/api"
	"nacelle/fault"
	"nacelle/filter"
	"nacelle/octet"
)

// ints are numbers near which something can change, and numbers far from all that is counted.
var ints = []int{
	math.MinInt, math.MinInt + 1, math.MinInt + 8, math.MinInt32, -65536, -257, -256, -64, -9, -8, -2, -1,
	0, 1, 2, 3, 7, 8, 9, 10, 55, 56, 57, 58, 62, 63, 64, 65, 66, 127, 128, 255, 256, 257, 65536,
	math.MaxInt32, 1 << 32, 1<<32 + 1, math.MaxInt - 64, math.MaxInt - 9, math.MaxInt - 8, math.MaxInt - 7, math.MaxInt - 1, math.MaxInt,
}

// nums are the same for the bounds of a number.
var nums = []uint64{
	0, 1, 2, 9, 10, 11, 127, 128, 255, 256, 257, 65535, 65536, 1 << 31, 1<<32 - 1, 1 << 32,
	math.MaxInt64, 1 << 63, 1<<63 + 1, math.MaxUint64 - 1, math.MaxUint64,
}

// any8 is a field that each message of 8 bytes satisfies.
var any8 = api.Field{Size: 8, High: math.MaxUint64}

// rule returns a rule.
func rule(least, most int, fields ...api.Field) api.Rule {
	return api.Rule{Least: least, Most: most, Fields: fields}
}

// loose returns the rule with these fields that asks nothing else.
func loose(fields ...api.Field) api.Rule {
	return rule(0, api.MaxMessage, fields...)
}

// times returns n fields like f.
func times(n int, f api.Field) []api.Field {
	return slices.Repeat([]api.Field{f}, n)
}

// greatest returns the greatest number of a size.
func greatest(size int) uint64 {
	return math.MaxUint64 >> (64 - 8*size)
}

// clone returns a rule that shares nothing with r.
func clone(r api.Rule) api.Rule {
	r.Fields = slices.Clone(r.Fields)
	return r
}

// within reports whether n is from low to high, where the sum of n's parts is of unbounded integers.
func within(low, high int64, parts ...int) bool {
	n := new(big.Int)
	for _, part := range parts {
		n.Add(n, big.NewInt(int64(part)))
	}
	return n.Cmp(big.NewInt(low)) >= 0 && n.Cmp(big.NewInt(high)) <= 0
}

// checked returns the Text of what Check returns, found as the chapter words it.
func checked(r api.Rule) string {
	if !within(0, int64(r.Most), r.Least) || !within(math.MinInt64, 64, r.Most) || len(r.Fields) > 8 {
		return "1@0"
	}
	for at, f := range r.Fields {
		ok := within(1, 8, f.Size) && within(0, math.MaxInt64, f.At) && within(math.MinInt64, 63, f.At, f.Size, -1)
		if !ok || f.Low > f.High {
			return fault.Text(fault.New(4, at))
		}
	}
	return ""
}

// passed returns the Text of what Pass returns, found as the chapter words it.
func passed(r api.Rule, b []byte) string {
	if s := checked(r); s != "" {
		return s[:1] + "@-1<" + s
	}
	switch {
	case len(b) < r.Least:
		return fault.Text(fault.New(2, len(b)))
	case len(b) > r.Most:
		return fault.Text(fault.New(7, r.Most))
	}
	for at, f := range r.Fields {
		if !asAsked(f, b) {
			return fault.Text(fault.New(3, at))
		}
	}
	return ""
}

// asAsked reports whether a message satisfies a field, its bytes visited one by one from the last one on.
func asAsked(f api.Field, b []byte) bool {
	n := uint64(0)
	for i := f.Size - 1; i >= 0; i-- {
		if f.At+i >= len(b) {
			return false
		}
		n = n<<8 + uint64(b[f.At+i])
	}
	return f.Low <= n && n <= f.High
}

// valid reports whether a cap is valid, as the chapter words it.
func valid(c api.Cap) bool {
	return within(0, 64, c.Rate) && within(int64(c.Rate), 64, c.Burst) && within(0, int64(c.Burst), c.Left)
}

// wantText fails the test, unless the error has this Text; nil has the empty one.
func wantText(t *testing.T, what string, args []any, got error, want string) {
	t.Helper()
	if fault.Text(got) != want || (got == nil) != (want == "") {
		t.Errorf("%s(%v) is %q, not %q", what, args, fault.Text(got), want)
	}
}

// wantCheck fails the test, unless Check returns the fault with this Text, and Pass wraps it for any message.
func wantCheck(t *testing.T, r api.Rule, want string) {
	t.Helper()
	before := clone(r)
	wantText(t, "Check", []any{r}, filter.Check(r), want)
	if want != "" {
		for _, b := range [][]byte{nil, {}, {1}, make([]byte, 8), make([]byte, 64), make([]byte, 65), make([]byte, 300)} {
			wantText(t, "Pass", []any{r, b}, filter.Pass(r, b), want[:1]+"@-1<"+want)
		}
	}
	if !reflect.DeepEqual(r, before) {
		t.Errorf("%v became %v", before, r)
	}
}

// wantPass fails the test, unless Pass returns the fault with this Text.
func wantPass(t *testing.T, r api.Rule, b []byte, want string) {
	t.Helper()
	rule, message := clone(r), bytes.Clone(b)
	wantText(t, "Pass", []any{r, b}, filter.Pass(r, b), want)
	if !reflect.DeepEqual(r, rule) || !bytes.Equal(b, message) {
		t.Errorf("%v, %v became %v, %v", rule, message, r, b)
	}
}

// wantBegin fails the test, unless Begin returns the cap, or ErrArg if there is none.
func wantBegin(t *testing.T, rate, burst int, ok bool) {
	t.Helper()
	want, code := api.Cap{}, api.ErrArg
	if ok {
		want, code = api.Cap{Rate: rate, Burst: burst, Left: burst}, api.OK
	}
	if c, e := filter.Begin(rate, burst); c != want || e != code {
		t.Errorf("Begin(%d, %d) = %v, %d, not %v, %d", rate, burst, c, e, want, code)
	}
}

// wantFrame fails the test, unless Frame leaves so many.
func wantFrame(t *testing.T, c api.Cap, left int) {
	t.Helper()
	if got := filter.Frame(c); got != (api.Cap{Rate: c.Rate, Burst: c.Burst, Left: left}) {
		t.Errorf("Frame(%v) = %v, not with %d left", c, got, left)
	}
}

// wantTake fails the test, unless Take leaves so many, and says so.
func wantTake(t *testing.T, c api.Cap, left int, ok bool) {
	t.Helper()
	got, may := filter.Take(c)
	if got != (api.Cap{Rate: c.Rate, Burst: c.Burst, Left: left}) || may != ok {
		t.Errorf("Take(%v) = %v, %v, not with %d left, %v", c, got, may, left, ok)
	}
}

// wantCap fails the test, unless May, Frame and Take are as the chapter words them.
func wantCap(t *testing.T, c api.Cap) {
	t.Helper()
	ok := valid(c)
	if filter.May(c) != ok {
		t.Errorf("May(%v) = %v", c, !ok)
	}
	if !ok {
		wantFrame(t, c, c.Left)
		wantTake(t, c, c.Left, false)
		return
	}
	wantFrame(t, c, min(c.Left+c.Rate, c.Burst))
	wantTake(t, c, max(c.Left-1, 0), c.Left > 0)
}

// P10.1: Check.

func TestLimits(t *testing.T) {
	if api.MaxFields != 8 || api.MaxRate != 64 || api.MaxMessage != 64 {
		t.Errorf("limits %d, %d, %d", api.MaxFields, api.MaxRate, api.MaxMessage)
	}
	if api.ErrArg != 1 || api.ErrShort != 2 || api.ErrForm != 3 || api.ErrRange != 4 || api.ErrExtra != 7 {
		t.Error("other codes")
	}
}

func TestCheckBounds(t *testing.T) {
	for _, most := range []int{0, 1, 9, 63, api.MaxMessage} {
		wantCheck(t, rule(0, most), "")
		wantCheck(t, rule(most, most), "")
		for _, least := range []int{math.MinInt, math.MinInt + 1, -64, -1, most + 1, api.MaxMessage + 1, math.MaxInt} {
			wantCheck(t, rule(least, most), "1@0")
		}
	}
	for _, most := range []int{math.MinInt, -2, -1, api.MaxMessage + 1, math.MaxInt32, math.MaxInt} {
		for _, least := range []int{math.MinInt, -1, 0, 1, api.MaxMessage, most, math.MaxInt} {
			wantCheck(t, rule(least, most), "1@0")
		}
	}
}

func TestCheckAllBounds(t *testing.T) {
	for _, least := range ints {
		for _, most := range ints {
			r := rule(least, most, any8)
			wantCheck(t, r, checked(r))
		}
	}
}

func TestCheckNumberOfFields(t *testing.T) {
	for n := range 40 {
		want := ""
		if n > api.MaxFields {
			want = "1@0"
		}
		wantCheck(t, loose(times(n, any8)...), want)
	}
	wantCheck(t, loose(times(256, any8)...), "1@0")
	wantCheck(t, loose(times(65536+1, any8)...), "1@0")
	wantCheck(t, api.Rule{Fields: []api.Field{}}, "")
	wantCheck(t, api.Rule{}, "")
}

func TestCheckSize(t *testing.T) {
	for _, size := range []int{math.MinInt, math.MinInt + 1, math.MinInt32, -8, -1, 0, 9, 10, 64, 256 + 1, 1<<32 + 1, math.MaxInt} {
		for _, at := range []int{0, 1, 55, 56, 63, 64, -1} {
			wantCheck(t, loose(api.Field{At: at, Size: size}), "4@0")
		}
	}
	for size := 1; size <= 8; size++ {
		wantCheck(t, loose(api.Field{Size: size}), "")
	}
}

func TestCheckPlace(t *testing.T) {
	for size := 1; size <= 8; size++ {
		for at := range api.MaxMessage + 10 {
			want := ""
			if at+size-1 > api.MaxMessage-1 {
				want = "4@0"
			}
			wantCheck(t, loose(api.Field{At: at, Size: size}), want)
		}
		for _, at := range []int{math.MinInt, math.MinInt + 1, math.MinInt + 9, -64, -8, -7, -1, math.MaxInt32, 1 << 32, math.MaxInt - 8, math.MaxInt - 1, math.MaxInt} {
			wantCheck(t, loose(api.Field{At: at, Size: size}), "4@0")
		}
	}
	// The place need not be within the bounds of the rule.
	wantCheck(t, rule(0, 0, api.Field{At: 56, Size: 8}), "")
}

func TestCheckSumsBeyondInts(t *testing.T) {
	for _, at := range ints {
		for _, size := range ints {
			r := loose(api.Field{At: at, Size: size})
			wantCheck(t, r, checked(r))
		}
	}
	wantCheck(t, loose(api.Field{At: math.MaxInt, Size: math.MaxInt}), "4@0")
	wantCheck(t, loose(api.Field{At: math.MaxInt, Size: 1}), "4@0")
	wantCheck(t, loose(api.Field{At: math.MinInt, Size: math.MinInt}), "4@0")
	wantCheck(t, loose(api.Field{At: 2, Size: math.MinInt}), "4@0")
}

func TestCheckNumbers(t *testing.T) {
	for _, low := range nums {
		for _, high := range nums {
			want := ""
			if low > high {
				want = "4@0"
			}
			// They may be greater than any number of the size.
			wantCheck(t, loose(api.Field{Size: 1, Low: low, High: high}), want)
			wantCheck(t, loose(api.Field{Size: 8, Low: low, High: high}), want)
		}
	}
	for low := uint64(1); low < 300; low++ {
		wantCheck(t, loose(api.Field{Size: 2, Low: low, High: low - 1}), "4@0")
		wantCheck(t, loose(api.Field{Size: 2, Low: low, High: low}), "")
		wantCheck(t, loose(api.Field{Size: 2, Low: low, High: low + 1}), "")
	}
}

// wrong are fields that are not as required, each in another way.
var wrong = []api.Field{
	{Size: 0}, {Size: -1}, {Size: 9}, {Size: math.MaxInt}, {Size: math.MinInt},
	{Size: 1, At: -1}, {Size: 1, At: 64}, {Size: 8, At: 57}, {Size: 1, At: math.MaxInt}, {Size: 1, At: math.MinInt},
	{Size: 1, Low: 1}, {Size: 8, Low: math.MaxUint64, High: math.MaxUint64 - 1},
	{Size: 9, At: -1, Low: 1},
}

func TestCheckFirstField(t *testing.T) {
	for n := 1; n <= api.MaxFields; n++ {
		for at := range n {
			for _, f := range wrong {
				r := loose(times(n, any8)...)
				r.Fields[at] = f
				wantCheck(t, r, fault.Text(fault.New(api.ErrRange, at)))
				for later := at + 1; later < n; later++ {
					r.Fields[later] = wrong[(later+n)%len(wrong)]
				}
				wantCheck(t, r, fault.Text(fault.New(api.ErrRange, at)))
			}
		}
	}
}

func TestCheckBoundsAheadOfFields(t *testing.T) {
	for _, f := range wrong {
		wantCheck(t, rule(-1, 64, f), "1@0")
		wantCheck(t, rule(65, 64, f), "1@0")
		wantCheck(t, rule(0, 65, f), "1@0")
		wantCheck(t, rule(0, -1, any8, f), "1@0")
		wantCheck(t, loose(times(9, f)...), "1@0")
		wantCheck(t, loose(append(times(8, any8), f)...), "1@0")
		wantCheck(t, loose(append([]api.Field{f}, times(8, any8)...)...), "1@0")
		wantCheck(t, rule(2, 1, times(9, f)...), "1@0")
	}
}

func TestCheckRandom(t *testing.T) {
	rnd := rand.New(rand.NewSource(1))
	found := map[string]int{}
	for range 100000 {
		r := rule(rnd.Intn(66)-1, 60+rnd.Intn(6))
		for range rnd.Intn(10) {
			f := api.Field{At: rnd.Intn(60), Size: 1 + rnd.Intn(8), High: nums[rnd.Intn(len(nums))]}
			if rnd.Intn(4) == 0 {
				f.Low = nums[rnd.Intn(len(nums))]
			}
			if rnd.Intn(20) == 0 {
				f.Size = ints[rnd.Intn(len(ints))]
			}
			if rnd.Intn(20) == 0 {
				f.At = ints[rnd.Intn(len(ints))]
			}
			r.Fields = append(r.Fields, f)
		}
		want := checked(r)
		wantText(t, "Check", []any{r}, filter.Check(r), want)
		found[want]++
	}
	if len(found) != 10 {
		t.Errorf("only %v", found)
	}
}

// P10.2: Pass.

func TestPassLengths(t *testing.T) {
	for least := range api.MaxMessage + 1 {
		for most := least; most <= api.MaxMessage; most++ {
			r := rule(least, most)
			for _, n := range []int{0, least - 1, least, most, most + 1, 64, 65, 300} {
				if n < 0 {
					continue
				}
				want := ""
				if n < least {
					want = fault.Text(fault.New(api.ErrShort, n))
				}
				if n > most {
					want = fault.Text(fault.New(api.ErrExtra, most))
				}
				wantPass(t, r, make([]byte, n), want)
			}
		}
	}
}

func TestPassOfNothing(t *testing.T) {
	for _, b := range [][]byte{nil, {}, make([]byte, 0, 9)} {
		wantPass(t, api.Rule{}, b, "")
		wantPass(t, rule(0, 64), b, "")
		wantPass(t, rule(1, 1), b, "2@0")
		wantPass(t, rule(64, 64), b, "2@0")
		wantPass(t, loose(api.Field{Size: 1, High: 255}), b, "3@0")
	}
}

func TestPassOfMuch(t *testing.T) {
	for _, n := range []int{65, 66, 128, 256, 257, 65536, 1 << 20} {
		wantPass(t, loose(), make([]byte, n), "7@64")
		wantPass(t, loose(api.Field{Size: 1, Low: 1, High: 1}), make([]byte, n), "7@64")
		wantPass(t, rule(0, 0), make([]byte, n), "7@0")
		wantPass(t, rule(64, 64), make([]byte, n), "7@64")
	}
}

func TestPassPlaces(t *testing.T) {
	for size := 1; size <= 8; size++ {
		for at := 0; at+size <= api.MaxMessage; at++ {
			f := api.Field{At: at, Size: size, High: greatest(size)}
			for n := range api.MaxMessage + 1 {
				want := ""
				if at+size > n {
					want = "3@0"
				}
				wantPass(t, loose(f), make([]byte, n), want)
			}
		}
	}
}

func TestPassOneByteBeyondTheEnd(t *testing.T) {
	b := make([]byte, 64)
	for n := range 64 {
		// What lies behind the message in its memory is no part of it.
		wantPass(t, loose(api.Field{At: n, Size: 1}), b[:n], "3@0")
		wantPass(t, loose(api.Field{At: n, Size: 1}), b[:n+1], "")
		wantPass(t, loose(api.Field{At: n, Size: 1}), b[:n:n], "3@0")
	}
}

func TestPassNumbers(t *testing.T) {
	for size := 1; size <= 8; size++ {
		top := greatest(size)
		for _, n := range []int{size, size + 1, api.MaxMessage} {
			for _, at := range []int{0, n - size} {
				for _, low := range nums {
					for _, high := range nums {
						if low > high || low > top || high > top {
							continue
						}
						f := api.Field{At: at, Size: size, Low: low, High: high}
						for _, num := range []uint64{0, low - 1, low, low + 1, high - 1, high, high + 1, top} {
							wantNumber(t, n, f, num&top)
						}
					}
				}
			}
		}
	}
}

// wantNumber fails the test, unless a field of a message of n bytes is satisfied by that number just if it is from Low to High.
func wantNumber(t *testing.T, n int, f api.Field, num uint64) {
	t.Helper()
	// The other bytes are such that the number would change, if one of them were taken for one of its own.
	b := bytes.Repeat([]byte{0xa5}, n)
	copy(b[f.At:], octet.Put(num, f.Size))
	want := "3@0"
	if f.Low <= num && num <= f.High {
		want = ""
	}
	wantPass(t, loose(f), b, want)
}

func TestPassBoundsBeyondTheSize(t *testing.T) {
	for size := 1; size < 8; size++ {
		top := greatest(size)
		full := bytes.Repeat([]byte{255}, size)
		wantPass(t, loose(api.Field{Size: size, Low: top, High: math.MaxUint64}), full, "")
		wantPass(t, loose(api.Field{Size: size, Low: top + 1, High: math.MaxUint64}), full, "3@0")
		wantPass(t, loose(api.Field{Size: size, Low: top + 1, High: top + 1}), make([]byte, size), "3@0")
	}
	full := bytes.Repeat([]byte{255}, 8)
	wantPass(t, loose(api.Field{Size: 8, Low: math.MaxUint64, High: math.MaxUint64}), full, "")
	wantPass(t, loose(api.Field{Size: 8, High: math.MaxUint64 - 1}), full, "3@0")
	wantPass(t, loose(api.Field{Size: 8, Low: 1 << 63, High: 1 << 63}), []byte{0, 0, 0, 0, 0, 0, 0, 128}, "")
}

func TestPassOrderOfBytes(t *testing.T) {
	b := []byte{1, 2, 3, 4, 5, 6, 7, 8}
	num := uint64(0)
	for size := 1; size <= 8; size++ {
		num |= uint64(size) << (8 * (size - 1))
		wantPass(t, loose(api.Field{Size: size, Low: num, High: num}), b, "")
		wantPass(t, loose(api.Field{Size: size, Low: num + 1, High: num + 1}), b, "3@0")
		wantPass(t, loose(api.Field{Size: size, Low: num - 1, High: num - 1}), b, "3@0")
	}
	wantPass(t, loose(api.Field{At: 3, Size: 2, Low: 5<<8 + 4, High: 5<<8 + 4}), b, "")
}

func TestPassFirstField(t *testing.T) {
	b := []byte{0, 1, 2, 3, 4, 5, 6, 7}
	for set := range 256 {
		r := rule(8, 8)
		want := ""
		for at := range 8 {
			num := uint64(at)
			if set>>at&1 == 1 {
				num = 100
				if want == "" {
					want = fault.Text(fault.New(api.ErrForm, at))
				}
			}
			r.Fields = append(r.Fields, api.Field{At: at, Size: 1, Low: num, High: num})
		}
		wantPass(t, r, b, want)
	}
	// A field that is not there, and one that is another number, in either order.
	other, beyond := api.Field{Size: 1, Low: 9, High: 9}, api.Field{At: 20, Size: 1, High: 255}
	wantPass(t, loose(any8, other, beyond), b, "3@1")
	wantPass(t, loose(any8, beyond, other), b, "3@1")
	wantPass(t, loose(beyond, any8), b, "3@0")
}

func TestPassFieldsThatOverlap(t *testing.T) {
	b := []byte{1, 2, 3, 4}
	low := api.Field{Size: 2, Low: 513, High: 513}
	high := api.Field{At: 1, Size: 2, Low: 770, High: 770}
	wantPass(t, loose(low, high), b, "")
	wantPass(t, loose(high, low), b, "")
	wantPass(t, loose(times(8, low)...), b, "")
	wantPass(t, loose(low, api.Field{Size: 2, Low: 514, High: 600}), b, "3@1")
	wantPass(t, loose(api.Field{Size: 2, High: 512}, low), b, "3@0")
	whole := api.Field{Size: 4, Low: 1<<24 - 1, High: 1 << 31}
	wantPass(t, loose(whole, low, high, whole), b, "")
}

func TestPassFirstOfAll(t *testing.T) {
	field := api.Field{Size: 1, Low: 9, High: 9}
	// Rules that are not valid come first, also for messages that are too short, too long, or not satisfying.
	for _, n := range []int{0, 2, 3, 65} {
		b := make([]byte, n)
		wantPass(t, rule(3, 2, field), b, "1@-1<1@0")
		wantPass(t, rule(-1, 2, field), b, "1@-1<1@0")
		wantPass(t, rule(1, 65, field), b, "1@-1<1@0")
		wantPass(t, rule(1, 2, field, field, api.Field{}), b, "4@-1<4@2")
		wantPass(t, rule(1, 2, times(9, field)...), b, "1@-1<1@0")
	}
	// Then comes the length, also for fields that are not satisfied.
	wantPass(t, rule(2, 2, field), []byte{0}, "2@1")
	wantPass(t, rule(2, 2, field), []byte{0, 0, 0}, "7@2")
	wantPass(t, rule(2, 2, field), []byte{0, 0}, "3@0")
	wantPass(t, rule(2, 2, field), []byte{9, 0}, "")
	wantPass(t, rule(2, 2, api.Field{At: 5, Size: 1, High: 255}), []byte{9}, "2@1")
	wantPass(t, rule(0, 2, api.Field{At: 2, Size: 1, High: 255}), []byte{9, 9, 9}, "7@2")
}

func TestPassRandom(t *testing.T) {
	rnd := rand.New(rand.NewSource(2))
	found := map[string]int{}
	for range 100000 {
		r := rule(rnd.Intn(6)-1, 4+rnd.Intn(20))
		for range rnd.Intn(5) {
			size := 1 + rnd.Intn(8)
			f := api.Field{At: rnd.Intn(6), Size: size, High: greatest(size) - uint64(rnd.Intn(9)), Low: uint64(rnd.Intn(9))}
			if rnd.Intn(50) == 0 {
				f.Size = ints[rnd.Intn(len(ints))]
			}
			r.Fields = append(r.Fields, f)
		}
		b := make([]byte, rnd.Intn(26))
		if rnd.Intn(3) > 0 {
			rnd.Read(b)
		}
		want := passed(r, b)
		wantPass(t, r, b, want)
		found[want[:min(len(want), 4)]]++
	}
	for _, want := range []string{"", "2@0", "2@3", "3@0", "3@1", "3@2", "3@3", "7@4", "7@20", "1@-1", "4@-1"} {
		if found[want] == 0 {
			t.Errorf("never %q", want)
		}
	}
}

// P10.3: May, Begin, Frame and Take.

func TestMay(t *testing.T) {
	for _, c := range []struct {
		rate, burst, left int
		ok                bool
	}{
		{0, 0, 0, true}, {0, 1, 0, true}, {0, 1, 1, true}, {1, 1, 0, true}, {1, 1, 1, true}, {64, 64, 64, true}, {0, 64, 64, true}, {64, 64, 0, true}, {2, 5, 1, true},
		{-1, 0, 0, false}, {-1, -1, -1, false}, {1, 0, 0, false}, {64, 63, 0, false}, {65, 65, 0, false}, {0, 65, 0, false}, {65, 64, 0, false},
		{0, -1, 0, false}, {0, 0, -1, false}, {0, 0, 1, false}, {1, 2, 3, false}, {1, 2, -1, false}, {64, 64, 65, false},
	} {
		if got := filter.May(api.Cap{Rate: c.rate, Burst: c.burst, Left: c.left}); got != c.ok {
			t.Errorf("May(%v) = %v", c, got)
		}
	}
}

func TestCapsNearTheLimits(t *testing.T) {
	for rate := -2; rate <= api.MaxRate+2; rate++ {
		for burst := -2; burst <= api.MaxRate+2; burst++ {
			wantBegin(t, rate, burst, rate >= 0 && rate <= burst && burst <= 64)
			for left := -2; left <= api.MaxRate+2; left++ {
				wantCap(t, api.Cap{Rate: rate, Burst: burst, Left: left})
			}
		}
	}
}

func TestCapsFarFromTheLimits(t *testing.T) {
	for _, rate := range ints {
		for _, burst := range ints {
			wantBegin(t, rate, burst, valid(api.Cap{Rate: rate, Burst: burst, Left: burst}))
			for _, left := range ints {
				wantCap(t, api.Cap{Rate: rate, Burst: burst, Left: left})
			}
		}
	}
}

func TestFrame(t *testing.T) {
	for burst := range api.MaxRate + 1 {
		for rate := range burst + 1 {
			// Left comes to one less than Burst, to just Burst, and would come to one more.
			for _, left := range []int{burst - rate - 1, burst - rate, burst - rate + 1} {
				if left >= 0 && left <= burst {
					wantFrame(t, api.Cap{Rate: rate, Burst: burst, Left: left}, min(left+rate, burst))
				}
			}
			wantFrame(t, api.Cap{Rate: rate, Burst: burst}, rate)
			wantFrame(t, api.Cap{Rate: rate, Burst: burst, Left: burst}, burst)
		}
	}
}

func TestTakeDown(t *testing.T) {
	for burst := range api.MaxRate + 1 {
		for _, rate := range []int{0, burst / 2, burst} {
			c, _ := filter.Begin(rate, burst)
			for left := burst; left > 0; left-- {
				wantTake(t, c, left-1, true)
				c, _ = filter.Take(c)
			}
			for range 3 {
				wantTake(t, c, 0, false)
				c, _ = filter.Take(c)
			}
		}
	}
}

func TestLongSequences(t *testing.T) {
	rnd := rand.New(rand.NewSource(3))
	for round := range 2000 {
		burst := rnd.Intn(api.MaxRate + 1)
		rate := rnd.Intn(burst + 1)
		c, _ := filter.Begin(rate, burst)
		count := burst
		for range 500 {
			// Some rounds have few frames, others few messages.
			if rnd.Intn(round%20+2) == 0 {
				c = filter.Frame(c)
				count += rate
				if count > burst {
					count = burst
				}
			} else {
				var ok bool
				c, ok = filter.Take(c)
				if ok != (count > 0) {
					t.Fatalf("Take said %v with %d left", ok, count)
				}
				if ok {
					count--
				}
			}
			if c != (api.Cap{Rate: rate, Burst: burst, Left: count}) {
				t.Fatalf("%v, not with %d left", c, count)
			}
		}
	}
}

// P10.4: what follows from the others.

func TestWiderRules(t *testing.T) {
	rnd := rand.New(rand.NewSource(4))
	both := 0
	for range 100000 {
		narrow := randomRule(rnd)
		wide := widened(rnd, narrow)
		b := make([]byte, rnd.Intn(20))
		rnd.Read(b)
		if filter.Pass(narrow, b) == nil {
			both++
			wantPass(t, wide, b, "")
		}
	}
	if both < 1000 {
		t.Errorf("only %d messages passed", both)
	}
}

// randomRule returns a valid rule.
func randomRule(rnd *rand.Rand) api.Rule {
	r := rule(rnd.Intn(8), 8+rnd.Intn(57))
	for range rnd.Intn(4) {
		size := 1 + rnd.Intn(8)
		half := greatest(size) / 2
		r.Fields = append(r.Fields, api.Field{At: rnd.Intn(6), Size: size, Low: rnd.Uint64() % (half/2 + 1), High: half + rnd.Uint64()%(half+1)})
	}
	return r
}

// widened returns a valid rule, no bound of which is narrower than those of a valid one.
func widened(rnd *rand.Rand, r api.Rule) api.Rule {
	r = clone(r)
	r.Least = rnd.Intn(r.Least + 1)
	r.Most += rnd.Intn(api.MaxMessage - r.Most + 1)
	for at := range r.Fields {
		f := &r.Fields[at]
		f.Low -= rnd.Uint64() % (f.Low + 1)
		if room := math.MaxUint64 - f.High; room > 0 {
			f.High += rnd.Uint64() % room
		}
	}
	return r
}

// moment is how many messages passed, and how many frames began, up to a moment.
type moment struct{ messages, frames int }

func TestWhatPassesBetweenMoments(t *testing.T) {
	rnd := rand.New(rand.NewSource(5))
	for round := range 100 {
		burst := rnd.Intn(api.MaxRate + 1)
		rate := rnd.Intn(burst + 1)
		c, _ := filter.Begin(rate, burst)
		moments := []moment{{}}
		for range 300 {
			now := moments[len(moments)-1]
			if rnd.Intn(round+2) == 0 {
				c = filter.Frame(c)
				now.frames++
			} else {
				var ok bool
				if c, ok = filter.Take(c); ok {
					now.messages++
				}
			}
			if c.Left < 0 || c.Left > burst || c.Rate != rate || c.Burst != burst {
				t.Fatalf("%v", c)
			}
			moments = append(moments, now)
		}
		wantFewBetween(t, moments, rate, burst)
	}
}

// wantFewBetween fails the test, unless between any two moments no more messages passed than Burst, and Rate for each frame.
func wantFewBetween(t *testing.T, moments []moment, rate, burst int) {
	t.Helper()
	for at, to := range moments {
		for _, from := range moments[:at] {
			if to.messages-from.messages > burst+rate*(to.frames-from.frames) {
				t.Fatalf("%v, %v: too many for %d, %d", from, to, rate, burst)
			}
		}
	}
}

func TestAllThatMayPassDoes(t *testing.T) {
	// As many as Rate pass in each frame, and Burst in the first one.
	for burst := range api.MaxRate + 1 {
		for _, rate := range []int{0, burst / 3, burst} {
			c, _ := filter.Begin(rate, burst)
			for frame, want := range []int{burst, rate, rate, rate} {
				if frame > 0 {
					c = filter.Frame(c)
				}
				n := 0
				for ok := true; ok; n++ {
					c, ok = filter.Take(c)
				}
				if n-1 != want {
					t.Errorf("%d of %d, %d passed in frame %d", n-1, rate, burst, frame)
				}
			}
		}
	}
}

// R1 to R6.

func TestWrongInputsOfAllKinds(t *testing.T) {
	for _, least := range ints {
		for _, at := range ints {
			for _, size := range []int{math.MinInt, -1, 0, 1, 8, 9, math.MaxInt} {
				r := rule(least, 64, api.Field{At: at, Size: size, High: 255})
				wantText(t, "Check", []any{r}, filter.Check(r), checked(r))
				for _, b := range [][]byte{nil, make([]byte, 3), make([]byte, 64), make([]byte, 65)} {
					wantText(t, "Pass", []any{r, b}, filter.Pass(r, b), passed(r, b))
				}
			}
		}
	}
}

func TestFaultsAreNewEachTime(t *testing.T) {
	bad := loose(any8, api.Field{})
	good := rule(1, 2, api.Field{Size: 1, Low: 1, High: 1})
	for range 3 {
		for _, c := range []struct {
			err  error
			want string
		}{
			{filter.Check(bad), "4@1"}, {filter.Pass(bad, nil), "4@-1<4@1"}, {filter.Check(rule(1, 0)), "1@0"}, {filter.Pass(rule(1, 0), nil), "1@-1<1@0"},
			{filter.Pass(good, nil), "2@0"}, {filter.Pass(good, make([]byte, 3)), "7@2"}, {filter.Pass(good, make([]byte, 2)), "3@0"},
		} {
			if got := fault.Text(c.err); got != c.want {
				t.Errorf("%q, not %q", got, c.want)
			}
			for f := (*fault.Fault)(nil); errors.As(c.err, &f); c.err = f.Cause {
				f.Code, f.At = 99, 99
			}
		}
	}
}

func TestFaultsAreFaults(t *testing.T) {
	err := filter.Pass(loose(any8, api.Field{}), nil)
	if !slices.Equal(fault.Path(err), []int{-1, 1}) || !slices.Equal(fault.Codes(err), []api.Errno{api.ErrRange, api.ErrRange}) {
		t.Errorf("%v, %v", fault.Path(err), fault.Codes(err))
	}
	if !errors.Is(err, fault.New(api.ErrRange, 0)) || errors.Unwrap(err) == nil || errors.Unwrap(errors.Unwrap(err)) != nil {
		t.Errorf("%v", err)
	}
	if !errors.Is(errors.Unwrap(err), filter.Check(loose(any8, api.Field{}))) {
		t.Errorf("%v", errors.Unwrap(err))
	}
	if err := filter.Pass(loose(api.Field{Size: 1}), nil); errors.Unwrap(err) != nil {
		t.Errorf("%v", err)
	}
}

func TestArgumentsMayBeModified(t *testing.T) {
	r := loose(api.Field{Size: 1, Low: 5, High: 5})
	b := []byte{5}
	for range 3 {
		wantPass(t, r, b, "")
		b[0] = 6
		wantPass(t, r, b, "3@0")
		r.Fields[0].High = 6
		wantPass(t, r, b, "")
		r.Fields[0].Low = 7
		wantPass(t, r, b, "4@-1<4@0")
		r.Fields[0].Low, r.Fields[0].High, b[0] = 5, 5, 5
	}
}

func TestFieldsBehindTheLastOne(t *testing.T) {
	// What lies behind the fields in their memory is no part of the rule.
	fields := []api.Field{any8, {}, {Size: 1, Low: 1, High: 1}}
	wantCheck(t, loose(fields[:1]...), "")
	wantPass(t, loose(fields[:1]...), make([]byte, 8), "")
	wantCheck(t, loose(fields[:2]...), "4@1")
	many := times(12, any8)
	wantCheck(t, loose(many[:8]...), "")
}

func TestCapsAreValues(t *testing.T) {
	c, _ := filter.Begin(1, 2)
	d, _ := filter.Take(c)
	e, _ := filter.Take(d)
	for range 3 {
		wantTake(t, c, 1, true)
		wantTake(t, d, 0, true)
		wantTake(t, e, 0, false)
		wantFrame(t, e, 1)
		wantFrame(t, d, 2)
		wantFrame(t, c, 2)
		wantBegin(t, 1, 2, true)
		wantBegin(t, 2, 1, false)
	}
}

// The chapter's examples.

func TestExamples(t *testing.T) {
	r := rule(1, 4, api.Field{At: 0, Size: 2, Low: 10, High: 20})
	wantPass(t, r, []byte{15, 0}, "")
	wantPass(t, r, []byte{21, 0}, "3@0")
	wantPass(t, r, []byte{15}, "3@0")
	wantPass(t, r, nil, "2@0")
	wantPass(t, r, []byte{15, 0, 1, 1, 1}, "7@4")

	c, code := filter.Begin(1, 2)
	if code != api.OK {
		t.Errorf("code %d", code)
	}
	var got []bool
	for range 3 {
		var ok bool
		c, ok = filter.Take(c)
		got = append(got, ok)
	}
	c = filter.Frame(c)
	for range 2 {
		var ok bool
		c, ok = filter.Take(c)
		got = append(got, ok)
	}
	if !slices.Equal(got, []bool{true, true, false, true, false}) {
		t.Errorf("%v", got)
	}
}
