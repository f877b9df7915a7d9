package fault_test

import (
	"errors"
	"fmt"
	"math"
	"slices"
	"strings"
	"testing"

	"nacelle/api"
	"nacelle/fault"
)

// asFault returns the fault that errors.As finds; the test fails if it finds none.
func asFault(t *testing.T, err error) *fault.Fault {
	t.Helper()
	var f *fault.Fault
	if !errors.As(err, &f) || f == nil {
		t.Fatalf("errors.As finds no fault in %v", err)
	}
	return f
}

// P1.1: New.

func TestNewKeepsCodeAndPosition(t *testing.T) {
	for _, c := range []struct {
		code api.Errno
		at   int
	}{
		{api.ErrArg, 0},
		{api.ErrForm, 7},
		{api.ErrPower, -1},
		{api.ErrHeld, math.MaxInt},
		{api.ErrNone, math.MinInt},
		{-5, 3},
		{math.MaxInt, 1},
		{math.MinInt, -1},
		{1000, 1000},
	} {
		f := asFault(t, fault.New(c.code, c.at))
		if f.Code != c.code || f.At != c.at || f.Cause != nil {
			t.Errorf("New(%d, %d) = {%d %d %v}", c.code, c.at, f.Code, f.At, f.Cause)
		}
	}
}

func TestNewOfOKIsNil(t *testing.T) {
	for _, at := range []int{0, 9, -1, math.MinInt, math.MaxInt} {
		if err := fault.New(api.OK, at); err != nil {
			t.Errorf("New(OK, %d) = %v", at, err)
		}
	}
}

func TestNewMakesFaultsOfTheirOwn(t *testing.T) {
	a, b := fault.New(api.ErrForm, 7), fault.New(api.ErrForm, 7)
	asFault(t, a).At = 8
	if p := fault.Path(b); !slices.Equal(p, []int{7}) {
		t.Errorf("another fault has changed: %v", p)
	}
}

// P1.2: In and Under.

func TestInOfNilIsNil(t *testing.T) {
	for _, at := range []int{0, 1, -1, math.MinInt, math.MaxInt} {
		if err := fault.In(nil, at); err != nil {
			t.Errorf("In(nil, %d) = %v", at, err)
		}
	}
}

func TestUnderOfNilIsNil(t *testing.T) {
	for _, code := range []api.Errno{api.OK, api.ErrForm, -1} {
		if err := fault.Under(nil, code, 1); err != nil {
			t.Errorf("Under(nil, %d, 1) = %v", code, err)
		}
	}
}

func TestInKeepsTheCode(t *testing.T) {
	cause := fault.New(api.ErrSum, 4)
	f := asFault(t, fault.In(cause, -2))
	if f.Code != api.ErrSum || f.At != -2 || f.Cause != cause {
		t.Errorf("In(8@4, -2) = {%d %d %v}", f.Code, f.At, f.Cause)
	}
	wrapped := fault.Under(cause, api.ErrFull, 1)
	f = asFault(t, fault.In(wrapped, 2))
	if f.Code != api.ErrFull || f.At != 2 || f.Cause != wrapped {
		t.Errorf("In takes the outermost code: {%d %d %v}", f.Code, f.At, f.Cause)
	}
}

func TestUnderTakesAnyCode(t *testing.T) {
	cause := fault.New(api.ErrSum, 4)
	for _, code := range []api.Errno{api.OK, api.ErrSum, api.ErrFull, -7, math.MaxInt, math.MinInt} {
		f := asFault(t, fault.Under(cause, code, -3))
		if f.Code != code || f.At != -3 || f.Cause != cause {
			t.Errorf("Under(8@4, %d, -3) = {%d %d %v}", code, f.Code, f.At, f.Cause)
		}
	}
}

func TestInOfCodeOKStaysAFault(t *testing.T) {
	cause := fault.Under(fault.New(api.ErrForm, 7), api.OK, 1)
	err := fault.In(cause, 5)
	if err == nil {
		t.Fatal("In of a fault with the code OK is nil")
	}
	f := asFault(t, err)
	if f.Code != api.OK || f.At != 5 || f.Cause != cause {
		t.Errorf("In(0@1<3@7, 5) = {%d %d %v}", f.Code, f.At, f.Cause)
	}
	if s := fault.Text(err); s != "0@5<0@1<3@7" {
		t.Errorf("Text: %q", s)
	}
}

// P1.3: Code, Path, Codes, Has.

func TestCodePathCodes(t *testing.T) {
	one := fault.New(api.ErrForm, 7)
	three := fault.Under(fault.In(one, 1), api.ErrFull, 0)
	for _, c := range []struct {
		err   error
		code  api.Errno
		path  []int
		codes []api.Errno
	}{
		{nil, api.OK, nil, nil},
		{one, api.ErrForm, []int{7}, []api.Errno{3}},
		{fault.In(one, -2), api.ErrForm, []int{-2, 7}, []api.Errno{3, 3}},
		{three, api.ErrFull, []int{0, 1, 7}, []api.Errno{5, 3, 3}},
		{fault.Under(three, api.OK, math.MinInt), api.OK, []int{math.MinInt, 0, 1, 7}, []api.Errno{0, 5, 3, 3}},
		{fault.In(fault.Under(one, -1, math.MaxInt), 2), -1, []int{2, math.MaxInt, 7}, []api.Errno{-1, -1, 3}},
	} {
		if got := fault.Code(c.err); got != c.code {
			t.Errorf("Code(%v) = %d, not %d", c.err, got, c.code)
		}
		if got := fault.Path(c.err); !slices.Equal(got, c.path) {
			t.Errorf("Path(%v) = %v, not %v", c.err, got, c.path)
		}
		if got := fault.Codes(c.err); !slices.Equal(got, c.codes) {
			t.Errorf("Codes(%v) = %v, not %v", c.err, got, c.codes)
		}
	}
}

func TestHas(t *testing.T) {
	err := fault.Under(fault.In(fault.Under(fault.New(api.ErrForm, 7), api.OK, 6), 1), api.ErrFull, 6)
	for _, code := range []api.Errno{api.ErrFull, api.OK, api.ErrForm} {
		if !fault.Has(err, code) {
			t.Errorf("Has(%v, %d) is false", err, code)
		}
	}
	for _, code := range []api.Errno{api.ErrNone, 7, 1, -3, math.MaxInt} {
		if fault.Has(err, code) {
			t.Errorf("Has(%v, %d) is true", err, code)
		}
	}
	if fault.Has(fault.New(api.ErrForm, 0), api.OK) {
		t.Error("a fault of the code 3 has no OK")
	}
	for _, code := range []api.Errno{api.OK, api.ErrForm, -1} {
		if fault.Has(nil, code) {
			t.Errorf("Has(nil, %d) is true", code)
		}
	}
}

func TestListsAreNewMemory(t *testing.T) {
	err := fault.In(fault.New(api.ErrForm, 7), 1)
	fault.Path(err)[0] = 99
	fault.Codes(err)[1] = 99
	if s := fault.Text(err); s != "3@1<3@7" {
		t.Errorf("the chain has changed: %q", s)
	}
	if p := fault.Path(err); !slices.Equal(p, []int{1, 7}) {
		t.Errorf("Path has changed: %v", p)
	}
	if c := fault.Codes(err); !slices.Equal(c, []api.Errno{3, 3}) {
		t.Errorf("Codes has changed: %v", c)
	}
}

// P1.4: Text, Error, Unwrap.

func TestText(t *testing.T) {
	one := fault.New(api.ErrForm, 7)
	for _, c := range []struct {
		err  error
		text string
	}{
		{nil, ""},
		{one, "3@7"},
		{fault.In(one, -2), "3@-2<3@7"},
		{fault.Under(fault.In(one, 1), api.ErrFull, 0), "5@0<3@1<3@7"},
		{fault.Under(one, api.OK, 0), "0@0<3@7"},
		{fault.Under(one, -12, -34), "-12@-34<3@7"},
		{fault.New(api.ErrHeld, math.MaxInt), "172@9223372036854775807"},
		{fault.New(math.MinInt, math.MinInt), "-9223372036854775808@-9223372036854775808"},
	} {
		if got := fault.Text(c.err); got != c.text {
			t.Errorf("Text = %q, not %q", got, c.text)
		}
		if c.err == nil {
			continue
		}
		if got := c.err.Error(); got != c.text {
			t.Errorf("Error() = %q, not %q", got, c.text)
		}
	}
}

func TestUnwrapReturnsTheCause(t *testing.T) {
	one := fault.New(api.ErrForm, 7)
	for _, err := range []error{fault.In(one, 1), fault.Under(one, api.OK, 2)} {
		if got := asFault(t, err).Unwrap(); got != one {
			t.Errorf("Unwrap of %v = %v", err, got)
		}
	}
	if got := asFault(t, one).Unwrap(); got != nil {
		t.Errorf("Unwrap of a fault without a cause = %v", got)
	}
}

func TestErrorOfALiteral(t *testing.T) {
	f := &fault.Fault{Code: api.ErrForm, At: -7}
	if f.Error() != "3@-7" {
		t.Errorf("Error() = %q", f.Error())
	}
	f = &fault.Fault{}
	if f.Error() != "0@0" {
		t.Errorf("Error() = %q", f.Error())
	}
}

// P1.5: errors.As, errors.Is, and what is wrapped stays as it was.

func TestAsFindsTheOutermost(t *testing.T) {
	err := fault.Under(fault.In(fault.New(api.ErrForm, 7), 1), api.ErrFull, 0)
	f := asFault(t, err)
	if f.Code != api.ErrFull || f.At != 0 || fault.Text(f.Cause) != "3@1<3@7" {
		t.Errorf("errors.As: %v", f)
	}
	f = asFault(t, fmt.Errorf("outside: %w", err))
	if error(f) != err {
		t.Errorf("errors.As through another error: %v", f)
	}
}

func TestWrappingChangesNothing(t *testing.T) {
	one := fault.New(api.ErrForm, 7)
	two := fault.In(one, 1)
	before := *asFault(t, two)
	fault.Under(two, api.ErrFull, 9)
	fault.In(two, 10)
	fault.Under(two, api.OK, 11)
	if *asFault(t, two) != before || fault.Text(one) != "3@7" || fault.Text(two) != "3@1<3@7" {
		t.Errorf("changed: %v, %v", one, two)
	}
}

func TestWrappingTwiceMakesTwoChains(t *testing.T) {
	one := fault.New(api.ErrForm, 7)
	a, b := fault.In(one, 1), fault.Under(one, api.ErrFull, 2)
	if fault.Text(a) != "3@1<3@7" || fault.Text(b) != "5@2<3@7" {
		t.Errorf("%q, %q", fault.Text(a), fault.Text(b))
	}
}

func TestIsComparesCodes(t *testing.T) {
	f := asFault(t, fault.In(fault.New(api.ErrForm, 7), 1))
	ok := asFault(t, fault.Under(f, api.OK, 0))
	for _, c := range []struct {
		f     *fault.Fault
		other error
		is    bool
	}{
		{f, fault.New(api.ErrForm, -9), true},
		{f, f, true},
		{f, fault.New(api.ErrFull, 1), false},
		{f, fault.Under(fault.New(api.ErrFull, 0), api.ErrForm, 1), true},
		{f, fault.Under(fault.New(api.ErrForm, 7), api.ErrFull, 1), false},
		{f, ok, false},
		{ok, &fault.Fault{}, true},
		{ok, f, false},
		{f, nil, false},
		{ok, nil, false},
		{f, errors.New("3@1<3@7"), false},
		{ok, errors.New(""), false},
		{f, fmt.Errorf("outside: %w", fault.New(api.ErrForm, 0)), true},
		{f, fmt.Errorf("outside: %w", fault.New(api.ErrFull, 0)), false},
		{f, fmt.Errorf("outside: %w", fault.Under(f, api.ErrFull, 0)), false},
		{f, errors.Join(errors.New("none"), fault.New(api.ErrForm, 0), fault.New(api.ErrFull, 0)), true},
		{f, errors.Join(fault.New(api.ErrFull, 0), fault.New(api.ErrForm, 0)), false},
	} {
		if got := c.f.Is(c.other); got != c.is {
			t.Errorf("(%v).Is(%v) = %v", c.f, c.other, got)
		}
	}
}

func TestErrorsIsFindsCodesInTheChain(t *testing.T) {
	err := fault.Under(fault.In(fault.New(api.ErrForm, 7), 1), api.ErrFull, 0)
	if !errors.Is(err, fault.New(api.ErrForm, 100)) || !errors.Is(err, fault.New(api.ErrFull, -1)) {
		t.Error("errors.Is does not find the codes of the chain")
	}
	if errors.Is(err, fault.New(api.ErrNone, 7)) || errors.Is(err, errors.New("5@0<3@1<3@7")) {
		t.Error("errors.Is finds what is not in the chain")
	}
}

// A chain as deep as the Limits let it be.

func TestDeepChain(t *testing.T) {
	const levels = 1 << 16
	err := fault.New(api.ErrSum, 0)
	for n := 1; n < levels; n++ {
		err = fault.In(err, n)
	}
	path := fault.Path(err)
	if len(path) != levels || path[0] != levels-1 || path[levels-1] != 0 {
		t.Fatalf("Path has %d elements", len(path))
	}
	if len(fault.Codes(err)) != levels || !fault.Has(err, api.ErrSum) || fault.Has(err, api.ErrForm) {
		t.Error("Codes or Has of a deep chain")
	}
	text := fault.Text(err)
	if strings.Count(text, "<") != levels-1 || !strings.HasPrefix(text, "8@65535<8@65534<") || !strings.HasSuffix(text, "<8@1<8@0") {
		t.Error("Text of a deep chain")
	}
}
