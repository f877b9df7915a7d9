// Package fault is layer 1, errors with positions: see shared/doc/01-fault.md.
package fault

import (
	"errors"
	"strconv"
	"strings"

	"nacelle/api"
)

// Fault is an error: its code, its position, and the error that it wraps (nil, if there is none).
type Fault struct {
	Code  api.Errno
	At    int
	Cause error
}

// Error returns the Text of the fault.
func (f *Fault) Error() string { return Text(f) }

// Unwrap returns the Cause, so that errors.Is and errors.As walk the chain.
func (f *Fault) Unwrap() error { return f.Cause }

// Is reports whether other is, or wraps, a fault with the same code: the positions and the causes do not count.
func (f *Fault) Is(other error) bool {
	g := outermost(other)
	return g != nil && g.Code == f.Code
}

// New returns a fault without a cause; nil, if the code is OK.
func New(code api.Errno, at int) error {
	if code == api.OK {
		return nil
	}
	return &Fault{Code: code, At: at}
}

// In wraps an error with a position, under the same code; nil stays nil.
func In(err error, at int) error {
	return Under(err, Code(err), at)
}

// Under wraps an error with a code and a position; nil stays nil.
func Under(err error, code api.Errno, at int) error {
	if err == nil {
		return nil
	}
	return &Fault{Code: code, At: at, Cause: err}
}

// Code returns the code of the outermost fault; OK, if there is none.
func Code(err error) api.Errno {
	f := outermost(err)
	if f == nil {
		return api.OK
	}
	return f.Code
}

// Path returns the positions of the chain, from the outermost fault on.
func Path(err error) []int {
	var path []int
	for f := outermost(err); f != nil; f = outermost(f.Cause) {
		path = append(path, f.At)
	}
	return path
}

// Codes returns the codes of the chain, from the outermost fault on.
func Codes(err error) []api.Errno {
	var codes []api.Errno
	for f := outermost(err); f != nil; f = outermost(f.Cause) {
		codes = append(codes, f.Code)
	}
	return codes
}

// Has reports whether a fault of the chain has this code.
func Has(err error, code api.Errno) bool {
	// Not New: a fault of the chain may have the code OK, and New makes none of it.
	return errors.Is(err, &Fault{Code: code})
}

// Text returns the chain as a text, such as 5@0<3@1<3@7.
func Text(err error) string {
	var b strings.Builder
	for f := outermost(err); f != nil; f = outermost(f.Cause) {
		if b.Len() > 0 {
			b.WriteByte('<')
		}
		b.WriteString(strconv.Itoa(int(f.Code)))
		b.WriteByte('@')
		b.WriteString(strconv.Itoa(f.At))
	}
	return b.String()
}

// outermost returns the first fault that errors.As finds; nil, if it finds none.
func outermost(err error) *Fault {
	var f *Fault
	if !errors.As(err, &f) {
		return nil
	}
	return f
}
