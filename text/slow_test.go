package text

import (
	"math/big"
	"math/rand"
	"regexp"
	"slices"
	"strings"
	"testing"

	"wanderstaff/api"
)

// slow parses by the chapter's words in another way: first all pieces of the text, then what they must be, with whatever is wrong thrown.
type slow struct {
	pieces []string
	around int
}

var piece = regexp.MustCompile(`(?s)[()]|'[^']*'|'|[^ \n()']+`)

func slowParse(s string) (l []api.Fn, err api.Errno) {
	defer func() {
		if e, ok := recover().(api.Errno); ok {
			l, err = nil, e
		}
	}()
	if len(s) > 1500 {
		return nil, api.ErrMuch
	}
	p := &slow{}
	for _, at := range piece.FindAllStringIndex(s, -1) {
		p.pieces = append(p.pieces, s[at[0]:at[1]])
	}
	for len(p.pieces) > 0 {
		l = append(l, p.fn())
	}
	return l, api.OK
}

func (p *slow) look() string {
	if len(p.pieces) == 0 {
		panic(api.ErrEnd)
	}
	return p.pieces[0]
}

func (p *slow) take(want string) {
	if p.look() != want {
		panic(api.ErrForm)
	}
	p.pieces = p.pieces[1:]
}

func (p *slow) word() string {
	w := p.look()
	if strings.ContainsAny(w[:1], "()'") {
		panic(api.ErrForm)
	}
	p.take(w)
	return w
}

var aName = regexp.MustCompile(`^[a-z]{1,8}$`)

func slowName(w string) string {
	if !aName.MatchString(w) || slices.Contains(taken, w) {
		panic(api.ErrName)
	}
	return w
}

func (p *slow) fn() (f api.Fn) {
	p.take("(")
	f.Name = slowName(p.word())
	p.take("(")
	for p.look() != ")" {
		f.Params = append(f.Params, slowName(p.word()))
	}
	p.take(")")
	f.Body = p.stmts()
	p.take(")")
	return f
}

func (p *slow) stmts() (l []api.Stmt) {
	for p.look() != ")" {
		l = append(l, p.stmt())
	}
	return l
}

// shapes has what stands behind a statement's word: n for a name, x for an expression, s for statements, and brackets.
var shapes = []struct {
	word, shape string
	kind        int
}{
	{"let", "nx", api.StLet}, {"set", "nx", api.StSet}, {"if", "x(s)(z)", api.StIf}, {"while", "xs", api.StWhile},
	{"say", "x", api.StSay}, {"return", "x", api.StReturn}, {"putl", "xx", api.StLeft}, {"putr", "xx", api.StRight}, {"do", "x", api.StDo},
}

func (p *slow) stmt() (st api.Stmt) {
	p.take("(")
	if p.around > 10 {
		panic(api.ErrDeep)
	}
	w := p.word()
	shape := "?"
	for _, s := range shapes {
		if s.word == w {
			st.Kind, shape = s.kind, s.shape
		}
	}
	p.around++
	for _, c := range shape + ")" {
		switch c {
		case '?':
			panic(api.ErrKind)
		case 'n':
			st.Name = slowName(p.word())
		case 'x':
			st.Args = append(st.Args, p.expr())
		case 's':
			st.Then = p.stmts()
		case 'z':
			st.Else = p.stmts()
		default:
			p.take(string(c))
		}
	}
	p.around--
	return st
}

var aNumber = regexp.MustCompile(`^-?(0|[1-9][0-9]*)$`)

func (p *slow) expr() api.Expr {
	first := p.look()
	switch {
	case first == ")":
		panic(api.ErrForm)
	case p.around > 10:
		panic(api.ErrDeep)
	case first == "(":
		return p.formed()
	case first == "'":
		panic(api.ErrEnd)
	case first[0] == '\'':
		p.take(first)
		return txt(slowText(first[1 : len(first)-1]))
	}
	w := p.word()
	if !aNumber.MatchString(w) {
		return named(slowName(w))
	}
	n, _ := new(big.Int).SetString(w, 10)
	if n.CmpAbs(big.NewInt(api.MaxInt)) > 0 {
		panic(api.ErrRange)
	}
	return num(int(n.Int64()))
}

var aText = regexp.MustCompile(`^[ -&(-~]{0,12}$`)

func slowText(s string) string {
	if !aText.MatchString(s) {
		panic(api.ErrForm)
	}
	return s
}

func (p *slow) formed() (x api.Expr) {
	p.take("(")
	w := p.word()
	count := 0
	switch at := strings.Index("+-*<=", w); {
	case len(w) == 1 && at >= 0:
		x.Kind, x.N, count = api.ExTwo, at+1, 2
	case w == "cell":
		x.Kind, count = api.ExCell, 2
	case w == "left":
		x.Kind, count = api.ExLeft, 1
	case w == "right":
		x.Kind, count = api.ExRight, 1
	case w == "ask":
		x.Kind, count = api.ExAsk, 1
	case w == "go":
		x.Kind, count = api.ExGo, 1
	case w == "here":
		x.Kind = api.ExHere
	default:
		x.Kind, x.Text = api.ExCall, slowName(w)
	}
	p.around++
	for p.look() != ")" {
		x.Args = append(x.Args, p.expr())
	}
	p.around--
	p.take(")")
	if x.Kind == api.ExCall && len(x.Args) <= 4 || x.Kind != api.ExCall && len(x.Args) == count {
		return x
	}
	panic(api.ErrMany)
}

// maker makes programs, and writes them down piece by piece.
type maker struct {
	r      *rand.Rand
	pieces []string
}

func (m *maker) put(l ...string) { m.pieces = append(m.pieces, l...) }

func (m *maker) one(l ...string) string { return l[m.r.Intn(len(l))] }

func (m *maker) name() string {
	s := m.one("x", "y", "abcdefgh", "lets", "f")
	m.put(s)
	return s
}

func (m *maker) fn() api.Fn {
	m.put("(")
	f := api.Fn{Name: m.name()}
	m.put("(")
	for range m.r.Intn(4) {
		f.Params = append(f.Params, m.name())
	}
	m.put(")")
	f.Body = m.stmts(0)
	m.put(")")
	return f
}

func (m *maker) stmts(deep int) (l []api.Stmt) {
	for range m.r.Intn(3) {
		if deep < 10 {
			l = append(l, m.stmt(deep))
		}
	}
	return l
}

func (m *maker) stmt(deep int) (st api.Stmt) {
	s := shapes[m.r.Intn(len(shapes))]
	st.Kind = s.kind
	m.put("(", s.word)
	for _, c := range s.shape {
		switch c {
		case 'n':
			st.Name = m.name()
		case 'x':
			st.Args = append(st.Args, m.expr(deep+1))
		case 's':
			st.Then = m.stmts(deep + 1)
		case 'z':
			st.Else = m.stmts(deep + 1)
		default:
			m.put(string(c))
		}
	}
	m.put(")")
	return st
}

func (m *maker) expr(deep int) api.Expr {
	kind := m.r.Intn(12)
	if deep >= 10 && kind > 3 {
		kind = m.r.Intn(4)
	}
	switch kind {
	case 0:
		n := m.r.Intn(2*api.MaxInt+1) - api.MaxInt
		m.put(big.NewInt(int64(n)).String())
		return num(n)
	case 1:
		s := m.one("", "a", " ( ", "twelve bytes", "let")
		m.put("'" + s + "'")
		return txt(s)
	case 2, 3:
		return named(m.name())
	}
	return m.formed(kind, deep)
}

func (m *maker) formed(kind, deep int) (x api.Expr) {
	words := []string{4: "+-*<=", 5: "cell", 6: "left", 7: "right", 8: "ask", 9: "here", 10: "go"}
	counts := []int{4: 2, 5: 2, 6: 1, 7: 1, 8: 1, 9: 0, 10: 1, 11: m.r.Intn(5)}
	x.Kind = kind
	m.put("(")
	switch kind {
	case api.ExTwo:
		x.N = 1 + m.r.Intn(5)
		m.put(words[kind][x.N-1 : x.N])
	case api.ExCall:
		x.Text = m.name()
	default:
		m.put(words[kind])
	}
	for range counts[kind] {
		x.Args = append(x.Args, m.expr(deep+1))
	}
	m.put(")")
	return x
}

// written puts blanks between the pieces, at random, and where words would else grow together.
func (m *maker) written(pieces []string) string {
	var b strings.Builder
	for i, p := range pieces {
		if i > 0 && !strings.ContainsAny(p[:1], "()'") && !strings.ContainsAny(pieces[i-1][:1], "()'") {
			b.WriteString(m.one(" ", "\n"))
		}
		if m.r.Intn(6) == 0 {
			b.WriteString(m.one(" ", "\n", " \n"))
		}
		b.WriteString(p)
	}
	return b.String()
}

// program is functions, and their pieces, that are few enough to be written with blanks.
func program(r *rand.Rand) ([]api.Fn, *maker) {
	for {
		m := &maker{r: r}
		var l []api.Fn
		for range 1 + r.Intn(3) {
			l = append(l, m.fn())
		}
		if len(strings.Join(m.pieces, "  ")) < 1400 {
			return l, m
		}
	}
}

func TestC1C2ThereAndBack(t *testing.T) {
	r := rand.New(rand.NewSource(3))
	for range 3000 {
		want, m := program(r)
		s := m.written(m.pieces)
		if len(s) > api.MaxText {
			continue
		}
		isParsed(t, s, want...)
		// blanks are no matter
		isParsed(t, "\n"+s+" ", want...)
		if plain := strings.Join(m.pieces, " "); len(plain) <= api.MaxText {
			isParsed(t, plain, want...)
		}
		// one behind the other
		if again := s + s; len(again) <= api.MaxText {
			isParsed(t, again, append(slices.Clone(want), want...)...)
		}
	}
}

// spoilt is the pieces with one of them gone, doubled, or another one.
func (m *maker) spoilt() []string {
	l := slices.Clone(m.pieces)
	for range 1 + m.r.Intn(2) {
		at := m.r.Intn(len(l))
		switch m.r.Intn(4) {
		case 0:
			l = slices.Delete(l, at, at+1)
		case 1:
			l = slices.Insert(l, at, l[m.r.Intn(len(l))])
		default:
			l[at] = m.one("(", ")", "'", "''", "'a\nb'", "'thirteen byte'", "x", "X", "go", "let", "if", "while", "say", "here", "cell", "left", "putl", "+", "-", "0", "-0", "05", "+5", "-7", "1073741825", "99999999999999999999", "\x00", "\xff", "\t", "(f", "f)", "abcdefghi", "("+strings.Repeat("(f ", m.r.Intn(12)))
		}
		if len(l) == 0 {
			return []string{"("}
		}
	}
	return l
}

func isSlow(t *testing.T, s string) api.Errno {
	t.Helper()
	want, wantErr := slowParse(s)
	got, err := Parse(s)
	if err != wantErr || tell(got) != tell(want) || err != api.OK && len(got) > 0 {
		t.Errorf("Parse(%q): %s %d comes, not %s %d", s, tell(got), err, tell(want), wantErr)
	}
	return err
}

func TestC1C2Spoilt(t *testing.T) {
	r := rand.New(rand.NewSource(4))
	seen := map[api.Errno]int{}
	for range 30000 {
		_, m := program(r)
		s := m.written(m.spoilt())
		if r.Intn(4) == 0 {
			s = s[:r.Intn(len(s))]
		}
		seen[isSlow(t, s)]++
	}
	for _, err := range []api.Errno{api.OK, api.ErrEnd, api.ErrName, api.ErrKind, api.ErrForm, api.ErrDeep, api.ErrRange, api.ErrMany} {
		if seen[err] < 20 {
			t.Errorf("%d came %d times alone", err, seen[err])
		}
	}
}

func TestC1C2AnyBytes(t *testing.T) {
	r := rand.New(rand.NewSource(5))
	pieces := []string{"(", "(", ")", ")", " ", "\n", "'", "a", "f", "1", "0", "-", "+", "let ", "say ", "if ", "while ", "main", "()", "(left ", "(say 1)", "\x00", "\x80"}
	for range 30000 {
		var b strings.Builder
		b.WriteString([]string{"", "(", "(main () ", "(main () (say "}[r.Intn(4)])
		for range r.Intn(20) {
			b.WriteString(pieces[r.Intn(len(pieces))])
		}
		isSlow(t, b.String())
	}
}
