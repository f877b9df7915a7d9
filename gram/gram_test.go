package gram_test

import (
	"errors"
	"maps"
	"math"
	"math/rand"
	"reflect"
	"slices"
	"strings"
	"testing"

	"nacelle/api"
	"nacelle/fault"
	"nacelle/gram"
)

// below and above are numbers far from all that is counted: below 0, and above the limits.
var (
	below = []int{math.MinInt, math.MinInt + 1, math.MinInt32, -65536, -257, -256, -64, -17, -16, -2, -1}
	above = []int{17, 18, 31, 32, 64, 255, 256, 257, 65536, math.MaxInt32, 1 << 32, 1<<32 + 1, math.MaxInt - 1, math.MaxInt}
)

// edges are bytes near which something can change.
var edges = []byte{0, 1, 62, 63, 64, 65, 126, 127, 128, 129, 190, 191, 192, 193, 253, 254, 255}

// limit is the number of steps after which a match of the model is given up.
const limit = 10000

// span returns the sign of the bytes from low to high.
func span(low, high byte) api.Sign {
	return api.Sign{Name: -1, Low: low, High: high}
}

// sign returns the sign that a byte of a written form stands for: a name for a capital letter, no byte for an _, any byte for a *, and otherwise that byte.
func sign(c byte) api.Sign {
	switch {
	case c >= 'A' && c <= 'P':
		return api.Sign{Name: int(c - 'A')}
	case c == '_':
		return span('b', 'a')
	case c == '*':
		return span(0, 255)
	}
	return span(c, c)
}

// body returns the signs that the bytes of s stand for.
func body(s string) []api.Sign {
	var signs []api.Sign
	for at := range len(s) {
		signs = append(signs, sign(s[at]))
	}
	return signs
}

// form returns a form.
func form(name int, signs ...api.Sign) api.Form {
	return api.Form{Name: name, Body: signs}
}

// of returns a grammar with so many names: A is name 0, B is name 1, and so on. Each form is written as its name, an = and the signs of its body.
func of(names int, forms string) api.Grammar {
	g := api.Grammar{Names: names}
	for _, s := range strings.Fields(forms) {
		g.Forms = append(g.Forms, form(int(s[0]-'A'), body(s[2:])...))
	}
	return g
}

// with returns a copy of g that has one form more at that index.
func with(g api.Grammar, at int, f api.Form) api.Grammar {
	g.Forms = slices.Insert(slices.Clone(g.Forms), at, f)
	return g
}

// clone returns a grammar that shares nothing with g.
func clone(g api.Grammar) api.Grammar {
	g.Forms = slices.Clone(g.Forms)
	for at := range g.Forms {
		g.Forms[at].Body = slices.Clone(g.Forms[at].Body)
	}
	return g
}

// empties returns a grammar with so many names, the only text of each of which is the empty one.
func empties(names int) api.Grammar {
	g := api.Grammar{Names: names}
	for name := range min(max(names, 0), api.MaxForms) {
		g.Forms = append(g.Forms, form(name))
	}
	return g
}

// set returns the set of the bytes of s.
func set(s string) [256]bool {
	var in [256]bool
	for at := range len(s) {
		in[s[at]] = true
	}
	return in
}

// written returns the bytes of a set.
func written(in [256]bool) string {
	var s []byte
	for b, ok := range in {
		if ok {
			s = append(s, byte(b))
		}
	}
	return string(s)
}

// model is what a well-formed grammar says, found literally as the chapter words it, for some letters only.
type model struct {
	g        api.Grammar
	letters  []byte
	text     []bool
	nullable []bool
	first    [][256]bool
	follow   [][256]bool
}

// newModel returns the model of a well-formed grammar. As many rounds as there are names are enough: what is found later would be found by way of one name twice.
func newModel(g api.Grammar, letters []byte) model {
	n := g.Names
	m := model{g, letters, make([]bool, n), make([]bool, n), make([][256]bool, n), make([][256]bool, n)}
	for range n {
		for _, f := range g.Forms {
			m.text[f.Name] = m.text[f.Name] || m.hasText(f.Body)
			m.nullable[f.Name] = m.nullable[f.Name] || m.vanishes(f.Body)
		}
	}
	for range n {
		for _, f := range g.Forms {
			for _, b := range letters {
				m.first[f.Name][b] = m.first[f.Name][b] || m.starts(f.Body, b)
			}
		}
	}
	for range n {
		for _, f := range g.Forms {
			m.followIn(f)
		}
	}
	return m
}

// followIn adds what follows the names of one form's body.
func (m model) followIn(f api.Form) {
	for at, s := range f.Body {
		if s.Name < 0 {
			continue
		}
		for _, b := range m.letters {
			behind := m.vanishes(f.Body[at+1:]) && m.follow[f.Name][b]
			if m.starts(f.Body[at+1:], b) || behind {
				m.follow[s.Name][b] = true
			}
		}
	}
}

// hasText reports whether each sign of the body has a text.
func (m model) hasText(signs []api.Sign) bool {
	return !slices.ContainsFunc(signs, func(s api.Sign) bool {
		return s.Name < 0 && s.Low > s.High || s.Name >= 0 && !m.text[s.Name]
	})
}

// vanishes reports whether the body is nullable.
func (m model) vanishes(signs []api.Sign) bool {
	return !slices.ContainsFunc(signs, func(s api.Sign) bool {
		return s.Name < 0 || !m.nullable[s.Name]
	})
}

// starts reports whether b is a first byte of the body.
func (m model) starts(signs []api.Sign, b byte) bool {
	if len(signs) == 0 {
		return false
	}
	s := signs[0]
	if s.Name < 0 {
		return s.Low <= b && b <= s.High
	}
	return m.first[s.Name][b] || m.nullable[s.Name] && m.starts(signs[1:], b)
}

// clashes reports whether a name keeps the grammar from being fit.
func (m model) clashes(name int) bool {
	var bodies [][]api.Sign
	for _, f := range m.g.Forms {
		if f.Name == name {
			bodies = append(bodies, f.Body)
		}
	}
	empty := 0
	for _, signs := range bodies {
		if m.vanishes(signs) {
			empty++
		}
	}
	for _, b := range m.letters {
		starting := 0
		for _, signs := range bodies {
			if m.starts(signs, b) {
				starting++
			}
		}
		if starting > 1 || starting == 1 && empty > 0 && m.follow[name][b] {
			return true
		}
	}
	return empty > 1
}

// check returns the Text of what Check returns for the well-formed grammar.
func (m model) check() string {
	for name, ok := range m.text {
		if !ok {
			return fault.Text(fault.New(api.ErrBarren, name))
		}
	}
	for name := range m.g.Names {
		if m.clashes(name) {
			return fault.Text(fault.New(api.ErrClash, name))
		}
	}
	return ""
}

// choice returns the body by which a name is replaced ahead of s; false, if there is none.
func (m model) choice(name int, s string) ([]api.Sign, bool) {
	for _, f := range m.g.Forms {
		if f.Name == name && s != "" && m.starts(f.Body, s[0]) {
			return f.Body, true
		}
	}
	for _, f := range m.g.Forms {
		if f.Name == name && m.vanishes(f.Body) {
			return f.Body, true
		}
	}
	return nil, false
}

// match returns what Match returns for the fit grammar, sign by sign; -1, if that takes too many steps.
func (m model) match(s string) int {
	stack := []api.Sign{{}} // the first one is the top
	for range limit {
		if len(stack) == 0 && s == "" {
			return 1
		}
		if len(stack) == 0 {
			return 0
		}
		top := stack[0]
		stack = stack[1:]
		if top.Name < 0 {
			if s == "" || s[0] < top.Low || s[0] > top.High {
				return 0
			}
			s = s[1:]
			continue
		}
		signs, ok := m.choice(top.Name, s)
		if !ok {
			return 0
		}
		stack = slices.Concat(signs, stack)
		if len(stack) > 32 {
			return 2
		}
	}
	return -1
}

// texts returns the texts of each name that have at most n bytes, found by nothing but the forms.
func texts(g api.Grammar, n int) []map[string]bool {
	all := make([]map[string]bool, g.Names)
	for name := range all {
		all[name] = map[string]bool{}
	}
	for grown := true; grown; {
		grown = false
		for _, f := range g.Forms {
			before := len(all[f.Name])
			maps.Copy(all[f.Name], textsOf(all, f.Body, n))
			grown = grown || len(all[f.Name]) > before
		}
	}
	return all
}

// textsOf returns the texts of a body that have at most n bytes, by those of the names.
func textsOf(all []map[string]bool, signs []api.Sign, n int) map[string]bool {
	found := map[string]bool{"": true}
	for _, s := range signs {
		longer := map[string]bool{}
		for head := range found {
			for tail := range textsOfSign(all, s) {
				if len(head)+len(tail) <= n {
					longer[head+tail] = true
				}
			}
		}
		found = longer
	}
	return found
}

// textsOfSign returns the texts of a sign, by those of the names.
func textsOfSign(all []map[string]bool, s api.Sign) map[string]bool {
	if s.Name >= 0 {
		return all[s.Name]
	}
	found := map[string]bool{}
	for b := int(s.Low); b <= int(s.High); b++ {
		found[string([]byte{byte(b)})] = true
	}
	return found
}

// strs returns all strings of at most n of the letters.
func strs(letters string, n int) []string {
	all := []string{""}
	for from := 0; n > 0; n-- {
		to := len(all)
		for _, s := range all[from:to] {
			for at := range len(letters) {
				all = append(all, s+letters[at:at+1])
			}
		}
		from = to
	}
	return all
}

// every returns all bytes.
func every() []byte {
	all := make([]byte, 256)
	for b := range all {
		all[b] = byte(b)
	}
	return all
}

// wantCheck fails the test, unless Check returns the fault with this Text, and Match agrees on whether g is fit.
func wantCheck(t *testing.T, g api.Grammar, want string) {
	t.Helper()
	before := clone(g)
	if got := fault.Text(gram.Check(g)); got != want {
		t.Errorf("Check(%v) is %q, not %q", g, got, want)
	}
	n, code := gram.Match(g, nil)
	if want == "" && code != api.OK || want != "" && (code != api.ErrForm || n != 0) {
		t.Errorf("Match(%v, nil) = %d, %d", g, n, code)
	}
	if !reflect.DeepEqual(g, before) {
		t.Errorf("%v became %v", before, g)
	}
}

// wantSets fails the test, unless the name has these sets.
func wantSets(t *testing.T, g api.Grammar, name int, vanishes bool, first, follow [256]bool) {
	t.Helper()
	before := clone(g)
	if got := gram.Vanishes(g, name); got != vanishes {
		t.Errorf("Vanishes(%v, %d) = %v", g, name, got)
	}
	if got := gram.First(g, name); got != first {
		t.Errorf("First(%v, %d) = %q, not %q", g, name, written(got), written(first))
	}
	if got := gram.Follow(g, name); got != follow {
		t.Errorf("Follow(%v, %d) = %q, not %q", g, name, written(got), written(follow))
	}
	if !reflect.DeepEqual(g, before) {
		t.Errorf("%v became %v", before, g)
	}
}

// wantNoSets fails the test, unless there is nothing for the name.
func wantNoSets(t *testing.T, g api.Grammar, name int) {
	t.Helper()
	wantSets(t, g, name, false, [256]bool{}, [256]bool{})
}

// wantMatch fails the test, unless Match of the text is this, and no error.
func wantMatch(t *testing.T, g api.Grammar, s string, want int) {
	t.Helper()
	before := clone(g)
	b := []byte(s)
	if n, code := gram.Match(g, b); n != want || code != api.OK {
		t.Errorf("Match(%v, %q) = %d, %d, not %d", g, s, n, code, want)
	}
	if string(b) != s || !reflect.DeepEqual(g, before) {
		t.Errorf("%v, %q became %v, %q", before, s, g, b)
	}
}

// wantModel fails the test, unless Check and the sets are those of the model, for a well-formed grammar with these letters.
func wantModel(t *testing.T, g api.Grammar, letters []byte) model {
	t.Helper()
	m := newModel(g, letters)
	wantCheck(t, g, m.check())
	for name := range g.Names {
		wantSets(t, g, name, m.nullable[name], m.first[name], m.follow[name])
	}
	return m
}

// P9.1: Check.

func TestLimits(t *testing.T) {
	if api.MaxNames != 16 || api.MaxForms != 48 || api.MaxBody != 8 || api.MaxStack != 32 {
		t.Errorf("limits %d, %d, %d, %d", api.MaxNames, api.MaxForms, api.MaxBody, api.MaxStack)
	}
	if api.No != 0 || api.Yes != 1 || api.Deep != 2 {
		t.Errorf("No %d, Yes %d, Deep %d", api.No, api.Yes, api.Deep)
	}
	if api.ErrArg != 1 || api.ErrForm != 3 || api.ErrBarren != 90 || api.ErrClash != 91 {
		t.Errorf("errors %d, %d, %d, %d", api.ErrArg, api.ErrForm, api.ErrBarren, api.ErrClash)
	}
}

func TestCheckNames(t *testing.T) {
	for names := 1; names <= 16; names++ {
		wantCheck(t, empties(names), "")
		wantCheck(t, api.Grammar{Names: names}, "90@0")
	}
	for _, names := range append(slices.Concat(below, above), 0) {
		wantCheck(t, empties(names), "1@0")
		wantCheck(t, api.Grammar{Names: names}, "1@0")
		wantCheck(t, api.Grammar{Names: names, Forms: []api.Form{}}, "1@0")
		wantCheck(t, api.Grammar{Names: names, Forms: []api.Form{form(0)}}, "1@0")
		wantCheck(t, api.Grammar{Names: names, Forms: []api.Form{form(names - 1)}}, "1@0")
	}
}

func TestCheckFormCount(t *testing.T) {
	many := api.Grammar{Names: 1}
	for n := range 300 {
		want := ""
		switch {
		case n == 0:
			want = "90@0"
		case n > 48:
			want = "1@0"
		}
		wantCheck(t, many, want)
		many = with(many, n, form(0, span(byte(n), byte(n))))
	}
	spread := api.Grammar{Names: 16}
	for n := range 48 {
		spread = with(spread, n, form(n%16, span(byte(n), byte(n))))
	}
	wantCheck(t, spread, "")
	wantCheck(t, with(spread, 48, form(0, span(48, 48))), "1@0")
	wantCheck(t, with(spread, 0, form(15)), "1@0")
}

func TestCheckFormName(t *testing.T) {
	g := of(3, "A=a B=b C=c")
	for at := range 4 {
		wrong := fault.Text(fault.New(api.ErrArg, at))
		for name := range 3 {
			wantCheck(t, with(g, at, form(name, span('x', 'x'))), "")
			wantCheck(t, with(g, at, form(name)), "")
		}
		for _, name := range append(slices.Concat(below, above), 3, 4, 15, 16) {
			wantCheck(t, with(g, at, form(name, span('x', 'x'))), wrong)
			wantCheck(t, with(g, at, form(name)), wrong)
		}
	}
	full := empties(16)
	wantCheck(t, with(full, 16, form(15, span('x', 'x'))), "")
	wantCheck(t, with(full, 16, form(16, span('x', 'x'))), "1@16")
	wantCheck(t, with(empties(1), 1, form(1, span('x', 'x'))), "1@1")
}

func TestCheckBodyLength(t *testing.T) {
	g := of(3, "A=a B=b C=c")
	for at := range 4 {
		for n := range 40 {
			want := ""
			if n > 8 {
				want = fault.Text(fault.New(api.ErrArg, at))
			}
			wantCheck(t, with(g, at, form(1, body(strings.Repeat("x", n))...)), want)
			wantCheck(t, with(g, at, form(1, append(body("x"), body(strings.Repeat("C", n))...)[:n]...)), want)
		}
		wantCheck(t, with(g, at, form(2, body(strings.Repeat("x", 1000))...)), fault.Text(fault.New(api.ErrArg, at)))
	}
}

func TestCheckSign(t *testing.T) {
	g := of(3, "A=a B=b C=c")
	for at := range 4 {
		for place := range 8 {
			signs := body("xxxxxxxx")
			f := form(0, signs...)
			for name := range 3 {
				// A name at the first place of a form of A has to be one that begins with no a.
				signs[place] = api.Sign{Name: max(name, 1)}
				if place > 0 {
					signs[place] = api.Sign{Name: name}
				}
				wantCheck(t, with(g, at, f), "")
			}
			for _, name := range below {
				signs[place] = api.Sign{Name: name, Low: 'x', High: 'x'}
				wantCheck(t, with(g, at, f), "")
			}
			for _, name := range append(slices.Clone(above), 3, 4, 15, 16) {
				signs[place] = api.Sign{Name: name, Low: 'x', High: 'x'}
				wantCheck(t, with(g, at, f), fault.Text(fault.New(api.ErrArg, at)))
			}
		}
	}
	full := empties(16)
	wantCheck(t, with(full, 16, form(0, span('x', 'x'), api.Sign{Name: 15})), "")
	wantCheck(t, with(full, 16, form(0, span('x', 'x'), api.Sign{Name: 16})), "1@16")
}

func TestCheckFirstWrongForm(t *testing.T) {
	good := form(0)
	wrong := []api.Form{form(-1), form(1), form(0, body("xxxxxxxxx")...), form(0, api.Sign{Name: 1}), form(math.MinInt, api.Sign{Name: math.MaxInt})}
	for n := range 6 {
		for _, first := range wrong {
			for _, second := range wrong {
				g := api.Grammar{Names: 1, Forms: slices.Repeat([]api.Form{good}, n)}
				g.Forms = append(g.Forms, first, good, second, good)
				wantCheck(t, g, fault.Text(fault.New(api.ErrArg, n)))
			}
		}
	}
}

// TestCheckOrder has each fault together with each of those that come after it.
func TestCheckOrder(t *testing.T) {
	wrong := form(0, api.Sign{Name: 16})
	for _, names := range []int{math.MinInt, -1, 0, 17, math.MaxInt} {
		wantCheck(t, api.Grammar{Names: names, Forms: []api.Form{form(0), form(0), wrong}}, "1@0")
		wantCheck(t, api.Grammar{Names: names, Forms: slices.Repeat([]api.Form{wrong}, 49)}, "1@0")
	}
	many := slices.Repeat([]api.Form{form(0)}, 48)
	wantCheck(t, api.Grammar{Names: 1, Forms: append(many, wrong)}, "1@0")
	wantCheck(t, api.Grammar{Names: 2, Forms: append(many[:47:47], wrong, form(2))}, "1@0")
	wantCheck(t, api.Grammar{Names: 2, Forms: append(many[:47:47], wrong)}, "1@47")
	wantCheck(t, with(of(3, "A=A A=a A=a"), 3, wrong), "1@3")
	wantCheck(t, with(of(3, "A=a B=b B=b"), 3, form(3)), "1@3")
	for _, c := range []struct {
		names int
		forms string
		want  string
	}{
		{2, "A=a A=a", "90@1"},
		{2, "A= A=", "90@1"},
		{2, "A=Aa A= B=B", "90@1"},
		{3, "A=a A=a B=b B=b C=C", "90@2"},
		{3, "A=a A=a B=B C=c C=c", "90@1"},
		{3, "A=A B=b B=b C=c C=c", "90@0"},
		{16, "A= A= B=b B=b C=Cc C=", "90@3"},
	} {
		wantCheck(t, of(c.names, c.forms), c.want)
	}
}

func TestCheckBarren(t *testing.T) {
	for _, c := range []struct {
		names int
		forms string
		want  string
	}{
		// names without a form
		{1, "", "90@0"},
		{2, "", "90@0"},
		{2, "A=", "90@1"},
		{2, "B=", "90@0"},
		{3, "A=a C=c", "90@1"},
		{3, "A=a", "90@1"},
		{3, "A=a B=b", "90@2"},
		{16, "A=a", "90@1"},
		// a name that only leads to itself
		{1, "A=A", "90@0"},
		{1, "A=aA", "90@0"},
		{1, "A=Aa", "90@0"},
		{1, "A=aA A=bA", "90@0"},
		{1, "A=aA A=b", ""},
		{2, "A=a B=B", "90@1"},
		{2, "A=a A=bB B=bB", "90@1"},
		{2, "A=B A=a B=BB", "90@1"},
		// names that only lead to each other
		{2, "A=B B=A", "90@0"},
		{2, "A=aB B=bA", "90@0"},
		{3, "A=a B=C C=B", "90@1"},
		{3, "A=a B=bC C=cB", "90@1"},
		{3, "A=a B=b C=BC", "90@2"},
		{3, "A=BC B=b C=cA", "90@0"},
		{3, "A=B B=C C=A", "90@0"},
		{3, "A=B B=C C=c", ""},
		{3, "A=B B=C C=A C=c", "91@2"},
		{3, "A=B B=cC C=A C=d", ""},
		{3, "C=c B=C A=B", ""},
		{16, "A=B B=C C=D D=E E=F F=G G=H H=I I=J J=K K=L L=M M=N N=O O=P P=x", ""},
		{16, "A=B B=C C=D D=E E=F F=G G=H H=I I=J J=K K=L L=M M=N N=O O=P P=P", "90@0"},
		{16, "P=O O=N N=M M=L L=K K=J J=I I=H H=G G=F F=E E=D D=C C=B B=A A=x", ""},
		{16, "A=x B=A C=B D=C E=D F=E G=F H=G I=H J=I K=J L=K M=L N=M O=N P=OP", "90@15"},
		// signs with no byte
		{1, "A=_", "90@0"},
		{1, "A=a_", "90@0"},
		{1, "A=_a", "90@0"},
		{1, "A=_ A=", ""},
		{1, "A=_ A=a", ""},
		{1, "A=_ A=_", "90@0"},
		{2, "A=a B=_", "90@1"},
		{2, "A=B B=_", "90@0"},
		{2, "A=Bb B=_ B=A", "90@0"},
		// a name in a body that has no other text
		{3, "A=aBC B=b C=C", "90@0"},
		{3, "A=aCB B=b C=C", "90@0"},
		{3, "A=aB B=b C=C", "90@2"},
	} {
		wantCheck(t, of(c.names, c.forms), c.want)
	}
}

// TestCheckByteSign has signs with Low above High, equal to it, and below it.
func TestCheckByteSign(t *testing.T) {
	for _, low := range edges {
		for _, high := range edges {
			want := ""
			if low > high {
				want = "90@0"
			}
			for _, name := range []int{-1, -2, math.MinInt} {
				s := api.Sign{Name: name, Low: low, High: high}
				wantCheck(t, api.Grammar{Names: 1, Forms: []api.Form{form(0, s)}}, want)
				wantCheck(t, api.Grammar{Names: 1, Forms: []api.Form{form(0, span('x', 'x'), s)}}, want)
				wantCheck(t, api.Grammar{Names: 1, Forms: []api.Form{form(0, s), form(0)}}, "")
			}
		}
	}
	// A sign that is a name is one, whatever its Low and High are.
	for _, s := range []api.Sign{{Name: 1}, {Name: 1, Low: 'a', High: 'z'}, {Name: 1, Low: 255}, {Name: 1, High: 255}} {
		g := with(of(2, "A=b B=a"), 1, form(0, s))
		wantCheck(t, g, "")
		wantSets(t, g, 0, false, set("ab"), set(""))
	}
}

func TestCheckClash(t *testing.T) {
	for _, c := range []struct {
		names int
		forms string
		want  string
	}{
		// two nullable bodies
		{1, "A=", ""},
		{1, "A= A=", "91@0"},
		{1, "A= A=a A=", "91@0"},
		{2, "A=a B= B=", "91@1"},
		{2, "A=B A= B=", "91@0"},
		{2, "A=B A=BB B=", "91@0"},
		{3, "A=B A=C B= C=", "91@0"},
		{3, "A=B A=C B= C=c", ""},
		{3, "A=B A=CB B= C=c", ""},
		{4, "A=B A=CD B=D C=B D=", "91@0"},
		{2, "A=B B= B=A", "91@1"},
		{1, "A=A A=", "91@0"},
		{1, "A=AA A=", "91@0"},
		{1, "A=_ A=", ""},
		{1, "A=A_ A=", ""},
		// two bodies with a first byte in common
		{1, "A=a A=a", "91@0"},
		{1, "A=a A=b", ""},
		{1, "A=ab A=ac", "91@0"},
		{1, "A=ab A=ba", ""},
		{1, "A=a A=b A=c A=d", ""},
		{1, "A=a A=b A=c A=a", "91@0"},
		{1, "A=a A=b A=c A=c", "91@0"},
		{1, "A=* A=a", "91@0"},
		{1, "A=* A=", ""},
		{2, "A=a B=b B=b", "91@1"},
		{2, "A=a B=a", ""},
		{1, "A=A A=a", "91@0"},
		{1, "A=Aa A=b", "91@0"},
		// by way of a name
		{2, "A=B A=a B=a", "91@0"},
		{2, "A=B A=b B=a", ""},
		{2, "A=Bx A=By B=a", "91@0"},
		{3, "A=B A=C B=a C=a", "91@0"},
		{3, "A=B A=C B=a C=b", ""},
		{3, "A=B A=c B=C C=c", "91@0"},
		{3, "A=c A=B B=C C=c", "91@0"},
		{3, "C=c B=C A=B A=c", "91@0"},
		// behind a nullable name
		{2, "A=Ba A=a B=", "91@0"},
		{2, "A=Ba A=b B=", ""},
		{2, "A=Ba A=a B=b", ""},
		{2, "A=Ba A=b B= B=b", "91@0"},
		{3, "A=BCa A=a B= C=", "91@0"},
		{3, "A=BCa A=c B= C=c", "91@0"},
		{3, "A=BCa A=a B= C=c", ""},
		{3, "A=BC A=a B= C=a", "91@0"},
		{4, "A=BCD A=d B= C=B D=d", "91@0"},
		// a nullable name and a byte that follows
		{1, "A=Aa A=", "91@0"},
		{2, "A=Ba B=a B=", "91@1"},
		{2, "A=Bb B=a B=", ""},
		{2, "A=Ba B=a", ""},
		{2, "A=B B=a B=", ""},
		{3, "A=BC B=a B= C=a", "91@1"},
		{3, "A=BC B=a B= C=c", ""},
		{4, "A=BCD B=a B= C= D=a", "91@1"},
		{4, "A=BCD B=a B= C=c D=a", ""},
		{2, "A=B* B=a B=", "91@1"},
		{1, "A=* A=", ""},
		{1, "A=*A A=", ""},
		{1, "A=*Aa A=", "91@0"},
		// by way of the end of another name's body
		{3, "A=Ba B=cC C=a C=", "91@2"},
		{3, "A=Ba B=cC C=b C=", ""},
		{4, "A=Ba B=cCD C=a C= D=", "91@2"},
		{4, "A=Ba B=cCD C=a C= D=d", ""},
		{4, "A=Ba B=bC C=cD D=a D=", "91@3"},
		{4, "D=a D= C=cD B=bC A=Ba", "91@3"},
		{3, "A=aB A=bC B=C C=x C=", ""},
		{3, "A=aBx A=bC B=C C=x C=", "91@1"},
		// by way of itself
		{1, "A=aA A=", ""},
		{1, "A=aAb A=", ""},
		{1, "A=aAa A=", "91@0"},
		{1, "A=aAA A=", "91@0"},
		{1, "A=aAbA A=", ""},
		{2, "A=aBA A= B=a B=", "91@1"},
		{2, "A=bBA A= B=a B=", ""},
		{2, "A=aB B=bB B=", ""},
		{2, "A=aBB B=b B=", "91@1"},
		// a first byte of the nullable body itself
		{3, "A=Bc B=C C=c C=", "91@1"},
		{3, "A=Bc B=C B=d C=c C=", "91@1"},
		{3, "A=Bb B=C B=d C=c C=", ""},
		{3, "A=Bd B=C B=d C=c C=", "91@1"},
		{3, "A=Bd B=d B=C C=c C=", "91@1"},
		// names that cannot be reached from name 0
		{2, "A=a B= B=", "91@1"},
		{2, "A=a B=", ""},
		{2, "A=a B=A B=a", "91@1"},
		{2, "A=a A= B=Aa", "91@0"},
		{2, "A=a A= B=Ab", ""},
		{3, "A=a A= B=cC C=bA", ""},
		{3, "A=a A= B=Ca C=bA", "91@0"},
		// forms that no text uses
		{1, "A=a A=_a", ""},
		{1, "A=a A=a_", "91@0"},
		{1, "A=a A=b_", ""},
		{1, "A=a A=_ A=_", ""},
		{1, "A=a A= A=bA_a", ""},
		{1, "A=a A= A=bAa_", "91@0"},
		{1, "A=a A= A=bA_", ""},
		{1, "A=a A= A=_Aa", "91@0"},
		{2, "A=aBA_ A=b B=b B=", "91@1"},
		// the least one of several names
		{3, "A=a A=a B=b B=b C=c C=c", "91@0"},
		{3, "A=a B=b B=b C=c C=c", "91@1"},
		{3, "C=c C=c B=b B=b A=a", "91@1"},
		{3, "A=a B=b C= C=", "91@2"},
		{3, "C= C= B=b A=Ba A=b", "91@0"},
		{3, "A=Ba B=a B= C= C=", "91@1"},
		{3, "A=Ca B=b B=b C=a C=", "91@1"},
	} {
		wantCheck(t, of(c.names, c.forms), c.want)
	}
}

// TestCheckRanges has two bodies whose first signs meet, or do not meet, at the ends of their ranges.
func TestCheckRanges(t *testing.T) {
	for _, low := range edges {
		for _, high := range edges {
			for _, b := range edges {
				want := ""
				if low <= b && b <= high {
					want = "91@0"
				}
				g := api.Grammar{Names: 1, Forms: []api.Form{form(0, span(low, high)), form(0, span(b, b)), form(0)}}
				wantCheck(t, g, want)
				slices.Reverse(g.Forms)
				wantCheck(t, g, want)
			}
		}
	}
	for k := 1; k < 256; k++ {
		apart := api.Grammar{Names: 1, Forms: []api.Form{form(0, span(0, byte(k-1))), form(0, span(byte(k), 255))}}
		wantCheck(t, apart, "")
		wantCheck(t, with(apart, 0, form(0, span(byte(k), byte(k)))), "91@0")
		wantCheck(t, with(apart, 2, form(0, span(byte(k-1), byte(k-1)))), "91@0")
		follows := with(of(2, "B="), 0, form(0, api.Sign{Name: 1}, span(byte(k), 255)))
		wantCheck(t, with(follows, 0, form(1, span(0, byte(k-1)))), "")
		wantCheck(t, with(follows, 0, form(1, span(0, byte(k)))), "91@1")
		wantCheck(t, with(follows, 0, form(1, span(255, 255))), "91@1")
	}
}

// TestCheckFault has what Check returns: a fault of layer 1 without a cause, a new one each time.
func TestCheckFault(t *testing.T) {
	for _, c := range []struct {
		g    api.Grammar
		code api.Errno
		at   int
	}{
		{api.Grammar{}, api.ErrArg, 0},
		{with(of(2, "A= B="), 2, form(7)), api.ErrArg, 2},
		{of(2, "A=a"), api.ErrBarren, 1},
		{of(2, "A=a B= B="), api.ErrClash, 1},
	} {
		var f *fault.Fault
		err := gram.Check(c.g)
		if !errors.As(err, &f) || *f != (fault.Fault{Code: c.code, At: c.at}) {
			t.Fatalf("Check(%v) = %v", c.g, err)
		}
		*f = fault.Fault{Code: api.ErrPower, At: 99, Cause: err}
		if again := gram.Check(c.g); fault.Code(again) != c.code || !slices.Equal(fault.Path(again), []int{c.at}) {
			t.Errorf("then Check(%v) = %d, %v", c.g, fault.Code(again), fault.Path(again))
		}
	}
	if err := gram.Check(of(1, "A=")); err != nil {
		t.Errorf("Check = %v", err)
	}
}

// P9.2: Vanishes, First, Follow.

func TestSets(t *testing.T) {
	for _, c := range []struct {
		names    int
		forms    string
		vanishes string   // the names
		first    []string // of each name
		follow   []string
	}{
		{1, "", "", []string{""}, []string{""}},
		{1, "A=", "A", []string{""}, []string{""}},
		{1, "A=a", "", []string{"a"}, []string{""}},
		{1, "A=_", "", []string{""}, []string{""}},
		{1, "A=ab A=cd", "", []string{"ac"}, []string{""}},
		{1, "A=aA A=", "A", []string{"a"}, []string{""}},
		{1, "A=aAb A=", "A", []string{"a"}, []string{"b"}},
		{1, "A=Aa A=", "A", []string{"a"}, []string{"a"}},
		{1, "A=Aa A=b", "", []string{"b"}, []string{"a"}},
		{1, "A=A", "", []string{""}, []string{""}},
		{1, "A=A A=", "A", []string{""}, []string{""}},
		{1, "A=aA_ A=", "A", []string{"a"}, []string{""}},
		{1, "A=aA_b A=", "A", []string{"a"}, []string{""}},
		{1, "A=_aA A=", "A", []string{""}, []string{""}},
		{1, "A=aAcAd A=", "A", []string{"a"}, []string{"cd"}},
		{1, "A=\x00A\xff A=", "A", []string{"\x00"}, []string{"\xff"}},
		{1, "A=\xffA\x00 A=", "A", []string{"\xff"}, []string{"\x00"}},
		{1, "A=\x00 A=\xff A=\x3f A=\x40 A=\x7f A=\x80 A=\xbf A=\xc0", "", []string{"\x00\x3f\x40\x7f\x80\xbf\xc0\xff"}, []string{""}},
		{2, "A=Bb B=a B=", "B", []string{"ab", "a"}, []string{"", "b"}},
		{2, "A=Bb B=a", "", []string{"a", "a"}, []string{"", "b"}},
		{2, "A=BB B=a", "", []string{"a", "a"}, []string{"", "a"}},
		{2, "A=BB B=a B=", "AB", []string{"a", "a"}, []string{"", "a"}},
		{2, "A=BB B=", "AB", []string{"", ""}, []string{"", ""}},
		{2, "A=B B=A", "", []string{"", ""}, []string{"", ""}},
		{2, "A=Ax B=Ay", "", []string{"", ""}, []string{"xy", ""}},
		{2, "A=BAx B=b", "", []string{"b", "b"}, []string{"x", "b"}},
		{3, "A=aBC B=b B= C=c C=", "BC", []string{"a", "b", "c"}, []string{"", "c", ""}},
		{3, "A=BC B=b B= C=c C=", "ABC", []string{"bc", "b", "c"}, []string{"", "c", ""}},
		{3, "A=BCd B=b B= C=c C=", "BC", []string{"bcd", "b", "c"}, []string{"", "cd", "d"}},
		{3, "A=xAy A=BC B=b B= C=c C=", "ABC", []string{"bcx", "b", "c"}, []string{"y", "cy", "y"}},
		{3, "A=Ba B=bC C=c", "", []string{"b", "b", "c"}, []string{"", "a", "a"}},
		{3, "A=Ba B=Cb C=cB C=", "C", []string{"bc", "bc", "c"}, []string{"", "ab", "b"}},
		{3, "A=Ba B=CC C=c C=", "BC", []string{"ac", "c", "c"}, []string{"", "a", "ac"}},
		{4, "A=a B=Cb C=cD D=d", "", []string{"a", "c", "c", "d"}, []string{"", "", "b", "b"}},
		{4, "A=BCD B=C C=D D=", "ABCD", []string{"", "", "", ""}, []string{"", "", "", ""}},
		{4, "A=BCDx B=C C=D D= D=d", "BCD", []string{"dx", "d", "d", "d"}, []string{"", "dx", "dx", "dx"}},
		{4, "A=BaCbDc B=bC C=cD D=dB D=", "D", []string{"b", "b", "c", "d"}, []string{"", "abc", "abc", "abc"}},
	} {
		g := of(c.names, c.forms)
		for name := range c.names {
			vanishes := strings.ContainsRune(c.vanishes, rune('A'+name))
			wantSets(t, g, name, vanishes, set(c.first[name]), set(c.follow[name]))
		}
		for _, name := range append(slices.Concat(below, above), c.names, c.names+1) {
			wantNoSets(t, g, name)
		}
	}
}

// TestSetsOfChains has sets that go through all names, with the forms in either order.
func TestSetsOfChains(t *testing.T) {
	for _, behind := range []string{"", "y"} {
		g := of(16, "P=x")
		for name := range 15 {
			g.Forms = append(g.Forms, form(name, body(string(rune('B'+name))+behind)...))
		}
		for range 2 {
			wantSets(t, g, 0, false, set("x"), set(""))
			for name := 1; name < 16; name++ {
				wantSets(t, g, name, false, set("x"), set(behind))
			}
			slices.Reverse(g.Forms)
		}
	}
	g := of(16, "A=By B=C C=D D=E E=F F=G G=H H=I I=J J=K K=L L=M M=N N=O O=P P=x P=")
	for range 2 {
		wantCheck(t, g, "")
		wantSets(t, g, 0, false, set("xy"), set(""))
		for name := 1; name < 16; name++ {
			wantSets(t, g, name, true, set("x"), set("y"))
		}
		slices.Reverse(g.Forms)
	}
}

func TestSetsOfRanges(t *testing.T) {
	for low := range 256 {
		for high := range 256 {
			s := span(byte(low), byte(high))
			g := api.Grammar{Names: 1, Forms: []api.Form{form(0, s, api.Sign{}, s), form(0)}}
			var want [256]bool
			for b := low; b <= high; b++ {
				want[b] = true
			}
			if gram.First(g, 0) != want || gram.Follow(g, 0) != want {
				t.Fatalf("%d to %d: %q, %q", low, high, written(gram.First(g, 0)), written(gram.Follow(g, 0)))
			}
		}
	}
	// Ranges that overlap, touch, and lie apart.
	g := api.Grammar{Names: 1, Forms: []api.Form{form(0, span(10, 70)), form(0, span(60, 129)), form(0, span(130, 131)), form(0, span(250, 255))}}
	var want [256]bool
	for b := range want {
		want[b] = b >= 10 && b <= 131 || b >= 250
	}
	wantSets(t, g, 0, false, want, set(""))
	wantCheck(t, g, "91@0")
}

// TestSetsNotWellFormed has grammars that are not well formed, at which no name has anything.
func TestSetsNotWellFormed(t *testing.T) {
	good := of(2, "A=aBa A= B=b B=")
	wantSets(t, good, 1, true, set("b"), set("a"))
	bad := []api.Grammar{
		{},
		with(good, 0, form(2)),
		with(good, 4, form(-1)),
		with(good, 4, form(math.MaxInt)),
		with(good, 2, form(0, body("xxxxxxxxx")...)),
		with(good, 4, form(0, body("C")...)),
		with(good, 4, form(1, span('x', 'x'), api.Sign{Name: math.MaxInt})),
		{Names: 2, Forms: slices.Repeat(good.Forms, 13)},
		{Names: 1, Forms: good.Forms},
	}
	for _, names := range append(slices.Concat(below, above), 0) {
		bad = append(bad, api.Grammar{Names: names, Forms: good.Forms})
	}
	for _, g := range bad {
		for _, name := range append(slices.Concat(below, above), 0, 1, 2, 3, 15, 16) {
			wantNoSets(t, g, name)
		}
	}
}

// least returns what all those numbers of so many bits have in common that are closed.
func least(bits int, closed func(x int) bool) int {
	common := 1<<bits - 1
	for x := range 1 << bits {
		if closed(x) {
			common &= x
		}
	}
	return common
}

// TestSetsAreSmallest holds the sets against the common part of all the sets that the chapter's conditions allow, for names A to C and the bytes a and b.
func TestSetsAreSmallest(t *testing.T) {
	r := rand.New(rand.NewSource(1))
	in := func(x, name, b int) bool { return x>>(2*name+b)&1 == 1 }
	for range 3000 {
		g := anyGrammar(r, 3, "ab", 3)
		nullable := least(3, func(x int) bool {
			return !slices.ContainsFunc(g.Forms, func(f api.Form) bool { return vanishesIn(x, f.Body) && x>>f.Name&1 == 0 })
		})
		starts := func(x int, signs []api.Sign, b int) bool {
			for _, s := range signs {
				if s.Name < 0 {
					return int(s.Low) <= 'a'+b && 'a'+b <= int(s.High)
				}
				if in(x, s.Name, b) {
					return true
				}
				if nullable>>s.Name&1 == 0 {
					return false
				}
			}
			return false
		}
		first := least(6, func(x int) bool {
			for _, f := range g.Forms {
				for b := range 2 {
					if starts(x, f.Body, b) && !in(x, f.Name, b) {
						return false
					}
				}
			}
			return true
		})
		follow := least(6, func(x int) bool {
			for _, f := range g.Forms {
				for at, s := range f.Body {
					for b := range 2 {
						rest := f.Body[at+1:]
						follows := starts(first, rest, b) || vanishesIn(nullable, rest) && in(x, f.Name, b)
						if s.Name >= 0 && follows && !in(x, s.Name, b) {
							return false
						}
					}
				}
			}
			return true
		})
		for name := range g.Names {
			var firsts, follows [256]bool
			for b := range 2 {
				firsts['a'+b] = in(first, name, b)
				follows['a'+b] = in(follow, name, b)
			}
			wantSets(t, g, name, nullable>>name&1 == 1, firsts, follows)
		}
	}
}

// vanishesIn reports whether the signs are names that all have their bit in nullable.
func vanishesIn(nullable int, signs []api.Sign) bool {
	return !slices.ContainsFunc(signs, func(s api.Sign) bool { return s.Name < 0 || nullable>>s.Name&1 == 0 })
}

// P9.3 and P9.4: Match.

func TestMatchNotFit(t *testing.T) {
	for _, g := range []api.Grammar{
		{},
		{Names: 17, Forms: []api.Form{form(0)}},
		{Names: math.MinInt},
		{Names: math.MaxInt},
		with(empties(1), 1, form(1)),
		with(empties(1), 1, form(0, span('a', 'a'), api.Sign{Name: 1})),
		with(empties(1), 1, form(0, body("aaaaaaaaa")...)),
		{Names: 1, Forms: slices.Repeat([]api.Form{form(0)}, 49)},
		of(1, ""),
		of(1, "A=A"),
		of(1, "A=aA"),
		of(2, "A=a"),
		of(1, "A= A="),
		of(1, "A=a A=ab"),
		of(1, "A=Aa A="),
		of(1, "A=aA A=Aa A="),
		of(2, "A=a B=b B=b"),
		of(2, "A=Ba B=a B="),
	} {
		for _, s := range [][]byte{nil, {}, []byte("a"), []byte("aa"), []byte("b"), []byte(strings.Repeat("a", 100))} {
			if n, code := gram.Match(g, s); n != 0 || code != api.ErrForm {
				t.Errorf("Match(%v, %q) = %d, %d", g, s, n, code)
			}
		}
	}
}

func TestMatchEmptyText(t *testing.T) {
	for _, c := range []struct {
		names int
		forms string
		want  int
	}{
		{1, "A=", api.Yes},
		{1, "A=a", api.No},
		{1, "A=a A=", api.Yes},
		{1, "A=*", api.No},
		{1, "A=_ A=", api.Yes},
		{1, "A=A_ A=", api.Yes},
		{1, "A=_ A=a", api.No},
		{2, "A=B B=", api.Yes},
		{2, "A=B B=b", api.No},
		{2, "A=BB B=", api.Yes},
		{3, "A=BC B= C=c", api.No},
		{3, "A=BC B= C=c C=", api.Yes},
		{2, "A=aB B=", api.No},
		{2, "A=a B=", api.No},
	} {
		g := of(c.names, c.forms)
		for _, s := range [][]byte{nil, {}, []byte("abc")[:0]} {
			if n, code := gram.Match(g, s); n != c.want || code != api.OK {
				t.Errorf("Match(%v, %q) = %d, %d, not %d", g, s, n, code, c.want)
			}
		}
	}
}

func TestMatch(t *testing.T) {
	for _, c := range []struct {
		names int
		forms string
		yes   string // texts
		no    string
	}{
		{1, "A=a", "a", "b aa ab ba"},
		{1, "A=abc", "abc", "a ab abcd bc ac acb abd"},
		{1, "A=a A=b A=", "a b", "c ab ba aa"},
		{1, "A=aA A=", "a aa aaa aaaaaaaaaaaaaaaaaaaaaaaaaaaaaaaaaaaaaaaaaaaaaaaaa", "b ab ba aab aaba"},
		{1, "A=aA A=b", "b ab aab", "a aa ba bb aabb"},
		{1, "A=aAb A=", "ab aabb aaabbb", "a b aab abb ba aabbb abab"},
		{1, "A=aAa A=b", "b aba aabaa", "a aa ab ba abaa aaba c"},
		{1, "A=(A)A A=", "() ()() (()) (()())()", "( ) )( (() ()) ()( (]"},
		{1, "A=*A A=", "a \x00 \xff \x7f\x80 abc", ""},
		{1, "A=*", "a \x00 \xff", "aa \x00\x00 a\xff"},
		{2, "A=aBc B=b B=", "ac abc", "a ab abbc c bc acc"},
		{2, "A=Bb B=a B=", "b ab", "a aab bb aa abb"},
		{2, "A=xBA A= B=yB B=z", "xz xyz xzxyyz", "x xy y xzx xyzz xzz"},
		{2, "A=aB B=,A B=", "a a,a a,a,a", ", a, ,a aa a,,a a,a,"},
		{3, "A=BC B=b B= C=c C=", "b c bc", "cb bb cc bcc bbc d"},
		{3, "A=BCa B=b B= C=c C=", "a ba ca bca", "b c bc ab cba bbca bcaa"},
		{4, "A=CB B=+CB B= C=(A) C=n D=d", "n n+n (n) (n+n)+n ((n))+(n)", "+ n+ +n (n n) () nn n+(n d"},
		{1, "A=a A=_a", "a", "_a aa b"},
		{1, "A=b_ A=a", "a", "b ba b_"},
	} {
		g := of(c.names, c.forms)
		for s := range strings.SplitSeq(c.yes, " ") {
			wantMatch(t, g, s, api.Yes)
		}
		for _, s := range strings.Fields(c.no) {
			wantMatch(t, g, s, api.No)
		}
	}
}

// TestMatchAround has texts that are matched, with all their beginnings, with each byte behind them, and with each byte in each place of them.
func TestMatchAround(t *testing.T) {
	numbers := api.Grammar{Names: 3, Forms: []api.Form{
		form(0, span('-', '-'), span('0', '9'), api.Sign{Name: 1}),
		form(0, span('0', '9'), api.Sign{Name: 1}),
		form(1, span('0', '9'), api.Sign{Name: 1}),
		form(1, api.Sign{Name: 2}),
		form(2),
		form(2, span(0, 31)),
		form(2, span(224, 255)),
	}}
	number := func(s string) bool {
		s = strings.TrimPrefix(s, "-")
		digits := strings.TrimLeft(s, "0123456789")
		return len(s) > len(digits) && (digits == "" || len(digits) == 1 && (digits[0] < 32 || digits[0] >= 224))
	}
	pairs := func(open, shut string) func(s string) bool {
		return func(s string) bool {
			n := len(s) / 2
			return s == strings.Repeat(open, n)+strings.Repeat(shut, n)
		}
	}
	for _, c := range []struct {
		g     api.Grammar
		text  string
		is    func(s string) bool
		begin bool // whether some of the beginnings are texts, too
	}{
		{of(1, "A=aAb A="), "aaaabbbb", pairs("a", "b"), true},
		{of(1, "A=\x00A\xff A="), "\x00\x00\x00\xff\xff\xff", pairs("\x00", "\xff"), true},
		{of(1, "A=\xffA\x00 A="), "\xff\xff\x00\x00", pairs("\xff", "\x00"), true},
		{numbers, "-1234567890\x1f", number, true},
		{numbers, "9\xff", number, true},
		{numbers, "-0\x00", number, true},
		{of(1, "A=abcdefgh"), "abcdefgh", func(s string) bool { return s == "abcdefgh" }, false},
		{of(1, "A=********"), "\x00\x01\x7f\x80\xfe\xffab", func(s string) bool { return len(s) == 8 }, false},
	} {
		try := func(s string) {
			t.Helper()
			want := api.No
			if c.is(s) {
				want = api.Yes
			}
			wantMatch(t, c.g, s, want)
		}
		if !c.is(c.text) {
			t.Fatalf("%q is no text", c.text)
		}
		shorter := 0
		for n := range len(c.text) {
			try(c.text[:n])
			if c.is(c.text[:n]) {
				shorter++
			}
		}
		if (shorter > 0) != c.begin {
			t.Errorf("%q has %d shorter texts", c.text, shorter)
		}
		for b := range 256 {
			in := string([]byte{byte(b)})
			try(c.text + in)
			for at := range len(c.text) {
				try(c.text[:at] + in + c.text[at+1:])
			}
		}
	}
}

// orDeep returns n, but Deep where so many signs are more than the stack has room for.
func orDeep(signs, n int) int {
	if signs > 32 {
		return api.Deep
	}
	return n
}

// TestMatchDepthByAndBy has signs that come onto the stack a few at a time, up to MaxStack and beyond.
func TestMatchDepthByAndBy(t *testing.T) {
	a := func(n int) string { return strings.Repeat("a", n) }
	b := func(n int) string { return strings.Repeat("b", n) }
	pairs := of(1, "A=aAb A=")
	for n := range 40 {
		most := n + 2
		wantMatch(t, pairs, a(n)+b(n), orDeep(most, api.Yes))
		// Ahead of what would not fit it is as deep as ahead of what fits.
		wantMatch(t, pairs, a(n)+b(n+1), orDeep(most, api.No))
		wantMatch(t, pairs, a(n)+"c", orDeep(most, api.No))
		wantMatch(t, pairs, a(n)+"c"+b(n), orDeep(most, api.No))
		if n > 0 {
			wantMatch(t, pairs, a(n), orDeep(most, api.No))
			wantMatch(t, pairs, a(n)+b(n-1), orDeep(most, api.No))
		}
	}
	// Each a leaves three signs, on which there come eight at last.
	threes := of(1, "A=aAbbb A=bbbbbbbb")
	for n := range 12 {
		most := 3*n + 8
		wantMatch(t, threes, a(n)+b(3*n+8), orDeep(most, api.Yes))
		wantMatch(t, threes, a(n)+b(3*n+9), orDeep(most, api.No))
		wantMatch(t, threes, a(n)+b(1), orDeep(most, api.No))
	}
	// What is at the end of a body leaves nothing on the stack.
	for _, n := range []int{1, 31, 32, 33, 64, 1000} {
		wantMatch(t, of(1, "A=aA A="), a(n), api.Yes)
		wantMatch(t, of(1, "A=aA A="), a(n)+"b", api.No)
		wantMatch(t, of(2, "A=BA A= B=a"), a(n), api.Yes)
	}
}

// TestMatchDepthAtOnce has bodies of 8 signs, each one in place of the first sign of the one before, and at last one that brings so many signs onto the stack.
func TestMatchDepthAtOnce(t *testing.T) {
	for n := range 9 {
		last := strings.Repeat("x", n)
		g := of(5, "A=Byyyyyyy B=Cyyyyyyy C=Dyyyyyyy D=Eyyyyyyy E="+last)
		text := last + strings.Repeat("y", 28)
		wantMatch(t, g, text, orDeep(28+n, api.Yes))
		wantMatch(t, g, text+"y", orDeep(28+n, api.No))
		wantMatch(t, g, "z", api.No)
		wantMatch(t, g, "", api.No)
		if n > 0 {
			wantMatch(t, g, "x", orDeep(28+n, api.No))
			wantMatch(t, g, "xz", orDeep(28+n, api.No))
		}
	}
}

// TestMatchDepthAtTheLimit has a stack of 32 signs, on which F is replaced by none, by one, and by more.
func TestMatchDepthAtTheLimit(t *testing.T) {
	z := func(n int) string { return strings.Repeat("z", n) }
	for _, c := range []struct {
		forms string
		text  string
		want  int
	}{
		{"F=", z(31), api.Yes},
		{"F=", z(30), api.No},
		{"F=x", "x" + z(31), api.Yes},
		{"F=x", "x" + z(30), api.No},
		{"F=x", "y", api.No},
		{"F=xz", "x" + z(32), api.Deep},
		{"F=xx", "x", api.Deep},
		{"F=xx", "z", api.No},
		{"F=x F=yx", "x" + z(31), api.Yes},
		{"F=x F=yx", "yx" + z(31), api.Deep},
		{"F=G G=x", "x" + z(31), api.Yes},
		{"F=G G=x G=", z(31), api.Yes},
		{"F=GG G=", z(31), api.Deep},
		{"F=GG G=", "z", api.Deep},
		{"F=GG G=", "zq", api.Deep},
		{"F=GG G=", "q", api.No},
		{"F=GG G=", "", api.No},
		{"F=GG F=x G=", "x" + z(31), api.Yes},
		{"F=GG F=x G=", z(31), api.Deep},
	} {
		g := of(7, "A=Bzzzzzzz B=Czzzzzzz C=Dzzzzzzz D=Ezzzzzzz E=Fzzz "+c.forms)
		if !strings.Contains(c.forms, "G=") {
			g.Names = 6
		}
		wantMatch(t, g, c.text, c.want)
	}
}

// TestMatchDepthOfNothing has nullable names, which come onto the stack and go again without a byte.
func TestMatchDepthOfNothing(t *testing.T) {
	for n := range 9 {
		rest := " C=DFFFFFFF D=EFFFFFFF F= E=" + strings.Repeat("F", n)
		// All that is behind the first sign of a body lies under what it is replaced by.
		g := of(6, "A=BFFFFFFF B=CFFFFFFF"+rest)
		wantMatch(t, g, "", orDeep(28+n, api.Yes))
		wantMatch(t, g, "x", orDeep(28+n, api.No))
		// Nothing lies under the last one, and less under one in the middle.
		g = of(6, "A=FFFFFFFB B=FFFFFFFC C=FFFFFFFD D=FFFFFFFE F= E="+strings.Repeat("F", n))
		wantMatch(t, g, "", api.Yes)
		wantMatch(t, g, "x", api.No)
		for place := range 8 {
			middle := strings.Repeat("F", place) + "B" + strings.Repeat("F", 7-place)
			g = of(6, "A="+middle+" B=CFFFFFFF"+rest)
			wantMatch(t, g, "", orDeep(28-place+n, api.Yes))
		}
		// A byte was consumed before, and others are waiting.
		under := strings.Repeat("z", min(n, 6))
		g = of(6, "A=aB"+under+" B=CFFFFFFF C=DFFFFFFF D=EFFFFFFF E=FFFFF F=")
		wantMatch(t, g, "a"+under, orDeep(26+len(under), api.Yes))
		wantMatch(t, g, "aq", orDeep(26+len(under), api.No))
	}
}

// TestMatchDepthOfNullableBody has a body that is nullable, and is selected by a byte, or by none.
func TestMatchDepthOfNullableBody(t *testing.T) {
	for _, c := range []struct {
		forms string
		text  string
		want  int
	}{
		{"E=FFFFG F= G=g G=", "g", api.Deep},
		{"E=FFFFG F= G=g G=", "", api.Deep},
		{"E=FFFG F= G=g G=", "g", api.Yes},
		{"E=FFFG F= G=g G=", "", api.Yes},
		{"E=FFFG F= G=g G=", "gg", api.No},
		{"E=Ghhhh E= F= G=g", "ghhhh", api.Deep},
		{"E=Ghhhh E= F= G=g", "", api.Yes},
	} {
		g := of(7, "A=BFFFFFFF B=CFFFFFFF C=DFFFFFFF D=EFFFFFFF "+c.forms)
		wantMatch(t, g, c.text, c.want)
	}
}

// TestMatchEnds has names that vanish in so many steps that they cannot be taken one by one.
func TestMatchEnds(t *testing.T) {
	g := of(16, "A=BBB B=CCC C=DDD D=EEE E=FFF F=GGG G=HHH H=III I=JJJ J=KKK K=LLL L=MMM M=NNN N=OOO O=PPP P=")
	wantMatch(t, g, "", api.Yes)
	wantMatch(t, g, "a", api.No)
	g = of(16, "A=aBA A= B=CCC C=DDD D=EEE E=FFF F=GGG G=HHH H=III I=JJJ J=KKK K=LLL L=MMM M=NNN N=OOO O=PPP P=")
	wantMatch(t, g, strings.Repeat("a", 100000), api.Yes)
	wantMatch(t, g, strings.Repeat("a", 100000)+"b", api.No)
	g = of(16, "A=aBA A= B=CCCCC C=DDDD D=EEEE E=FFF F=GGG G=HHH H=III I=JJJ J=KKK K=LLL L=MMM M=NNN N=OOO O=PPP P=")
	wantMatch(t, g, "a", api.Deep)
	wantMatch(t, g, "", api.Yes)
}

func TestMatchLongText(t *testing.T) {
	text := strings.Repeat("x,", 500000)
	g := of(2, "A=xB B=,A B=")
	wantMatch(t, g, text, api.No)
	wantMatch(t, g, text+"x", api.Yes)
	wantMatch(t, g, text+"y", api.No)
}

// anyGrammar returns a well-formed grammar with at most so many names, in bodies of at most so many signs.
func anyGrammar(r *rand.Rand, names int, letters string, signs int) api.Grammar {
	g := api.Grammar{Names: 1 + r.Intn(names)}
	for range r.Intn(3 * g.Names) {
		f := form(r.Intn(g.Names))
		for range r.Intn(signs + 1) {
			f.Body = append(f.Body, anySign(r, g.Names, letters))
		}
		g.Forms = append(g.Forms, f)
	}
	return g
}

// anySign returns a name, or a sign of some of the letters, which can be none of them.
func anySign(r *rand.Rand, names int, letters string) api.Sign {
	if r.Intn(2) == 0 {
		return api.Sign{Name: r.Intn(names), Low: byte(r.Intn(256)), High: byte(r.Intn(256))}
	}
	low, high := r.Intn(len(letters)), r.Intn(len(letters))
	if r.Intn(3) > 0 {
		high = low
	}
	return api.Sign{Name: -1 - r.Intn(3), Low: letters[low], High: letters[high]}
}

// fitGrammar returns a grammar of which many are fit: most forms begin with a letter of their own.
func fitGrammar(r *rand.Rand, names int, letters string) api.Grammar {
	g := api.Grammar{Names: 1 + r.Intn(names)}
	for name := range g.Names {
		order := r.Perm(len(letters))
		for n := range 1 + r.Intn(3) {
			f := form(name)
			if r.Intn(4) > 0 {
				b := letters[order[n]]
				f.Body = append(f.Body, span(b, b))
			}
			for range r.Intn(3) {
				f.Body = append(f.Body, anySign(r, g.Names, letters))
			}
			if n == 0 && r.Intn(2) == 0 {
				f.Body = nil
			}
			g.Forms = append(g.Forms, f)
		}
	}
	r.Shuffle(len(g.Forms), func(i, j int) { g.Forms[i], g.Forms[j] = g.Forms[j], g.Forms[i] })
	return g
}

// wantTexts fails the test, unless Match of the fit grammar is Yes for the texts of name 0 alone, and what the model says.
func wantTexts(t *testing.T, m model, texts map[string]bool, try []string) {
	t.Helper()
	for _, s := range try {
		got, code := gram.Match(m.g, []byte(s))
		if want := m.match(s); got != want || code != api.OK {
			t.Errorf("Match(%v, %q) = %d, %d, not %d", m.g, s, got, code, want)
		}
		if got != api.Deep && (got == api.Yes) != texts[s] {
			t.Errorf("Match(%v, %q) = %d, but it is %v that it is a text", m.g, s, got, texts[s])
		}
	}
}

// TestAllSmallGrammars has all grammars with two names and at most three forms, whose bodies have at most two signs of A, B, a and b.
func TestAllSmallGrammars(t *testing.T) {
	var forms []api.Form
	for _, s := range strs("ABab", 2) {
		forms = append(forms, form(0, body(s)...), form(1, body(s)...))
	}
	try := strs("abc", 4)
	fit := 0
	check := func(list ...api.Form) {
		g := api.Grammar{Names: 2, Forms: list}
		m := wantModel(t, g, []byte("abc"))
		all := texts(g, 4)
		for name, texts := range all {
			// With two names and two signs, a name that has a text has one of at most 4 bytes.
			if (len(texts) > 0) != m.text[name] || texts[""] != m.nullable[name] {
				t.Errorf("%v: the texts of %d are %v", g, name, texts)
			}
		}
		if m.check() == "" {
			fit++
			wantTexts(t, m, all[0], try)
		}
	}
	check()
	for i, f := range forms {
		check(f)
		for j, e := range forms[i:] {
			check(e, f)
			if (i+j)%3 > 0 {
				continue // a third of the others is enough
			}
			for _, d := range forms[i+j:] {
				check(f, e, d)
			}
		}
	}
	if fit < 500 || t.Failed() {
		t.Errorf("%d of them are fit", fit)
	}
}

// TestAnyGrammar holds Check, the sets and Match of larger grammars against the model.
func TestAnyGrammar(t *testing.T) {
	r := rand.New(rand.NewSource(2))
	for range 500 {
		wantModel(t, anyGrammar(r, 16, "\x00\x3f\x40az\x7f\x80\xc0\xff", 8), every())
	}
	fit := 0
	letters := "abcde"
	try := strs("abc", 4)
	for range 3000 {
		g := fitGrammar(r, 4, letters)
		m := wantModel(t, g, []byte(letters))
		if m.check() != "" {
			continue
		}
		fit++
		all := texts(g, 5)[0]
		wantTexts(t, m, all, try)
		wantTexts(t, m, all, slices.Sorted(maps.Keys(all)))
	}
	if fit < 500 || t.Failed() {
		t.Errorf("%d of them are fit", fit)
	}
}

// TestAnyDepth holds Match against the model where names vanish, or bytes come, on a stack that is nearly full.
func TestAnyDepth(t *testing.T) {
	r := rand.New(rand.NewSource(3))
	var counts [3]int
	for range 2500 {
		g := api.Grammar{Names: 4 + r.Intn(6)}
		for name := range g.Names {
			var signs []api.Sign
			if name < g.Names-1 {
				for range 3 + r.Intn(6) {
					signs = append(signs, api.Sign{Name: min(name+1+r.Intn(2), g.Names-1)})
				}
			}
			g.Forms = append(g.Forms, form(name, signs...))
			if r.Intn(4) == 0 {
				// A byte of its own, which follows no name unless the name itself stands twice in a text.
				own := byte('a' + name)
				g.Forms = append(g.Forms, form(name, slices.Repeat(body(string(own)), 1+r.Intn(8))...))
			}
		}
		m := newModel(g, []byte("abcdefghijklmn"))
		if m.check() != "" {
			continue
		}
		for _, s := range []string{"", "a", "b", "c", "d", "aa", "dd", "ddd", "eeee", "x"} {
			want := m.match(s)
			if want < 0 {
				continue
			}
			counts[want]++
			wantMatch(t, g, s, want)
		}
	}
	if slices.Min(counts[:]) < 100 {
		t.Errorf("No, Yes and Deep: %v", counts)
	}
}

// R1 to R4: any arguments, and memory of the caller's own.

// TestAnyArguments has grammars of any numbers, for which every call ends.
func TestAnyArguments(t *testing.T) {
	r := rand.New(rand.NewSource(4))
	numbers := slices.Concat(below, above, []int{0, 0, 0, 1, 1, 1, 2, 2, 2, 3, 15, 16})
	pick := func() int { return numbers[r.Intn(len(numbers))] }
	for range 20000 {
		g := api.Grammar{Names: pick()}
		if r.Intn(3) > 0 {
			g.Names = 1 + r.Intn(16)
		}
		for range r.Intn(6) {
			f := form(pick())
			if r.Intn(4) > 0 {
				f.Name = r.Intn(max(min(g.Names, 16), 1))
			}
			for range r.Intn(10) {
				f.Body = append(f.Body, api.Sign{Name: pick(), Low: byte(r.Intn(256)), High: byte(r.Intn(256))})
			}
			g.Forms = append(g.Forms, f)
		}
		name := pick()
		text := make([]byte, r.Intn(8))
		r.Read(text)
		before := clone(g)
		code := fault.Code(gram.Check(g))
		n, refused := gram.Match(g, text)
		vanishes, first, follow := gram.Vanishes(g, name), gram.First(g, name), gram.Follow(g, name)
		if (code == api.OK) != (refused == api.OK) || refused != api.OK && (refused != api.ErrForm || n != 0) || n < 0 || n > 2 {
			t.Errorf("%v: Check %d, Match %d, %d", g, code, n, refused)
		}
		none := code == api.ErrArg || name < 0 || name >= g.Names
		if none && (vanishes || first != [256]bool{} || follow != [256]bool{}) {
			t.Errorf("%v, %d: %v, %q, %q", g, name, vanishes, written(first), written(follow))
		}
		if !reflect.DeepEqual(g, before) {
			t.Errorf("%v became %v", before, g)
		}
	}
}

// TestOwnMemory has arguments and results that are modified after a call.
func TestOwnMemory(t *testing.T) {
	g := of(2, "A=aBc A= B=b B=")
	spare := g.Forms[0].Body[:3:3]
	g.Forms[0].Body = append(spare, body("xyz")...)[:3]
	behind := g.Forms[0].Body[:6]
	text := []byte("abcdef")
	for range 3 {
		wantCheck(t, g, "")
		wantSets(t, g, 1, true, set("b"), set("c"))
		first, follow := gram.First(g, 1), gram.Follow(g, 1)
		first['b'], first['q'], follow['c'], follow['q'] = false, true, false, true
		wantSets(t, g, 1, true, set("b"), set("c"))
		if n, code := gram.Match(g, text[:3]); n != api.Yes || code != api.OK {
			t.Errorf("Match = %d, %d", n, code)
		}
	}
	if !slices.Equal(behind[3:], body("xyz")) || string(text) != "abcdef" {
		t.Errorf("behind the arguments: %v, %q", behind[3:], text)
	}
	g.Forms[0].Body[0] = sign('q')
	g.Forms[2].Body[0] = sign('r')
	wantCheck(t, g, "")
	wantSets(t, g, 1, true, set("r"), set("c"))
	wantMatch(t, g, "abc", api.No)
	wantMatch(t, g, "qrc", api.Yes)
	g.Names = 1
	wantCheck(t, g, "1@0")
	wantNoSets(t, g, 0)
}

// TestNilAndEmpty has nil slices and empty ones, which are the same.
func TestNilAndEmpty(t *testing.T) {
	for _, signs := range [][]api.Sign{nil, {}, body("x")[:0]} {
		g := api.Grammar{Names: 1, Forms: []api.Form{{Body: signs}, form(0, sign('a'))}}
		wantCheck(t, g, "")
		wantSets(t, g, 0, true, set("a"), set(""))
		wantMatch(t, g, "", api.Yes)
		wantMatch(t, g, "a", api.Yes)
	}
	for _, forms := range [][]api.Form{nil, {}, of(1, "A=").Forms[:0]} {
		g := api.Grammar{Names: 1, Forms: forms}
		wantCheck(t, g, "90@0")
		wantNoSets(t, g, 0)
	}
}

// TestAgain has the same calls again, and others between them.
func TestAgain(t *testing.T) {
	r := rand.New(rand.NewSource(5))
	var list []api.Grammar
	var answers []string
	ask := func(g api.Grammar) string {
		n, code := gram.Match(g, []byte("ab"))
		first, follow := gram.First(g, 0), gram.Follow(g, 0)
		return fault.Text(gram.Check(g)) + " " + written(first) + " " + written(follow) + " " + string(rune('0'+n)) + string(rune('0'+code))
	}
	for range 300 {
		g := fitGrammar(r, 3, "abc")
		list = append(list, g)
		answers = append(answers, ask(g))
	}
	for _, at := range r.Perm(len(list)) {
		if got := ask(clone(list[at])); got != answers[at] {
			t.Errorf("%v: %q, then %q", list[at], answers[at], got)
		}
	}
}

// The chapter's examples.

func TestExamples(t *testing.T) {
	first := of(1, "A=aA A=")
	wantCheck(t, first, "")
	wantMatch(t, first, "aaa", api.Yes)
	wantMatch(t, first, "aab", api.No)
	wantCheck(t, of(1, "A=Aa A="), "91@0")
	wantCheck(t, of(1, "A=A"), "90@0")
	fourth := of(1, "A=aAb A=")
	wantMatch(t, fourth, strings.Repeat("a", 31)+strings.Repeat("b", 31), api.Deep)
	wantMatch(t, fourth, "aaabbb", api.Yes)
}
