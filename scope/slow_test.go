package scope

import (
	"math/rand"
	"slices"
	"strconv"
	"strings"
	"testing"

	"wanderstaff/api"
	"wanderstaff/text"
)

// stood is a statement, and its block: the way there, from the function's own on.
type stood struct {
	block string
	st    api.Stmt
}

// laid is all statements one behind the other, in the order in which they are looked at.
func laid(block string, l []api.Stmt) (out []stood) {
	for i, st := range l {
		at := block + strconv.Itoa(i)
		out = append(out, stood{block, st})
		out = append(out, laid(at+"then/", st.Then)...)
		out = append(out, laid(at+"else/", st.Else)...)
	}
	return out
}

// outerFirst is all expressions of l, and those within, one behind the other.
func outerFirst(l []api.Expr) (out []api.Expr) {
	rest := slices.Clone(l)
	for len(rest) > 0 {
		x := rest[0]
		out = append(out, x)
		rest = slices.Concat(x.Args, rest[1:])
	}
	return out
}

// seen is the names that are there at statement i: parameters, and what was let ahead in a block around it.
func seen(f api.Fn, all []stood, i int) []string {
	names := slices.Clone(f.Params)
	for _, s := range all[:i] {
		if s.st.Kind == api.StLet && strings.HasPrefix(all[i].block, s.block) {
			names = append(names, s.st.Name)
		}
	}
	return names
}

// slow writes down all that is wrong, by the chapter's words, in turn, and goes on as if nothing were.
type slow struct {
	fns    []api.Fn
	faults []api.Errno
	texts  []string
}

func (c *slow) note(wrong bool, err api.Errno) {
	if wrong {
		c.faults = append(c.faults, err)
	}
}

func (c *slow) at(name string) int {
	return slices.IndexFunc(c.fns, func(f api.Fn) bool { return f.Name == name })
}

func (c *slow) head(i int) {
	f := c.fns[i]
	c.note(c.at(f.Name) < i, api.ErrName)
	for j, p := range f.Params {
		c.note(slices.Contains(f.Params[:j], p), api.ErrName)
	}
	c.note(len(f.Params) > 4, api.ErrMany)
}

func (c *slow) expr(x api.Expr, names []string) {
	switch x.Kind {
	case api.ExName:
		c.note(!slices.Contains(names, x.Text), api.ErrNone)
	case api.ExText:
		c.texts = append(c.texts, x.Text)
	case api.ExCall:
		at := c.at(x.Text)
		c.note(at < 0, api.ErrNone)
		c.note(at >= 0 && len(c.fns[max(at, 0)].Params) != len(x.Args), api.ErrMany)
	}
}

func (c *slow) body(f api.Fn) {
	all := laid("/", f.Body)
	vars := len(f.Params)
	for i, s := range all {
		names := seen(f, all, i)
		for _, x := range outerFirst(s.st.Args) {
			c.expr(x, names)
		}
		there := slices.Contains(names, s.st.Name)
		if s.st.Kind == api.StLet {
			vars++
			c.note(there, api.ErrName)
			c.note(vars > 8, api.ErrMuch)
		}
		c.note(s.st.Kind == api.StSet && !there, api.ErrNone)
	}
}

func slowCheck(l []api.Fn) api.Errno {
	c := &slow{fns: l}
	c.note(len(l) < 1 || len(l) > 5, api.ErrMany)
	for i := range l {
		c.head(i)
	}
	c.note(len(l) > 0 && len(l[0].Params) > 0, api.ErrFit)
	for _, f := range l {
		c.body(f)
	}
	slices.Sort(c.texts)
	c.note(len(slices.Compact(c.texts)) > 16, api.ErrMuch)
	return append(c.faults, api.OK)[0]
}

// maker writes programs of which most names are there: one in odd is not looked after.
type maker struct {
	r      *rand.Rand
	odd    int
	counts map[string]int // of parameters
	vars   int
	out    strings.Builder
}

func (m *maker) put(l ...string) {
	for _, s := range l {
		m.out.WriteString(s)
	}
}

func (m *maker) isOdd() bool { return m.odd > 0 && m.r.Intn(m.odd) == 0 }

func (m *maker) pick(l []string) string { return l[m.r.Intn(len(l))] }

func (m *maker) any() string { return letter(m.r.Intn(11)) }

// there is a name of those, or any.
func (m *maker) there(names []string) string {
	if len(names) == 0 || m.isOdd() {
		return m.any()
	}
	return m.pick(names)
}

// fresh is a name of none of those, or any.
func (m *maker) fresh(names []string) string {
	for {
		if s := m.any(); !slices.Contains(names, s) || m.isOdd() {
			return s
		}
	}
}

func (m *maker) program() string {
	names := []string{"main", "f", "g", "h", "k"}[:1+m.r.Intn(5)]
	if m.isOdd() {
		names = append(slices.Clone(names), m.pick([]string{"main", "f", "z"}))
	}
	m.counts = map[string]int{}
	for i, s := range names {
		if i > 0 || m.isOdd() {
			m.counts[s] = m.r.Intn(5)
		}
		if m.isOdd() {
			m.counts[s] = m.r.Intn(6)
		}
	}
	for _, s := range names {
		m.fn(s)
	}
	return m.out.String()
}

func (m *maker) fn(name string) {
	m.put("(", name, " (")
	var names []string
	for range m.counts[name] {
		names = append(names, m.fresh(names))
		m.put(" ", names[len(names)-1])
	}
	m.put(")")
	m.vars = len(names)
	m.stmts(names, 0)
	m.put(")")
}

func (m *maker) stmts(names []string, deep int) {
	names = slices.Clone(names)
	for range m.r.Intn(6) {
		switch kind := m.r.Intn(6 - deep); {
		case kind == 0 && (m.vars < 8 || m.isOdd()):
			m.vars++
			s := m.fresh(names)
			m.put("(let ", s)
			m.exprs(1, names, 0)
			names = append(names, s)
		case kind == 1 && (len(names) > 0 || m.isOdd()):
			m.put("(set ", m.there(names))
			m.exprs(1, names, 0)
		case kind == 2:
			m.put("(putl")
			m.exprs(2, names, 0)
		case kind == 3:
			m.put("(while")
			m.exprs(1, names, 0)
			m.stmts(names, deep+1)
		case kind == 4:
			m.put("(if")
			m.exprs(1, names, 0)
			m.put("(")
			m.stmts(names, deep+1)
			m.put(")(")
			m.stmts(names, deep+1)
			m.put(")")
		default:
			m.put("(say")
			m.exprs(1, names, 0)
		}
		m.put(")")
	}
}

func (m *maker) exprs(count int, names []string, deep int) {
	for range count {
		m.put(" ")
		m.expr(names, deep)
	}
}

func (m *maker) expr(names []string, deep int) {
	switch kind := m.r.Intn(7 - deep); {
	case kind == 0 && (len(names) > 0 || m.isOdd()):
		m.put(m.there(names))
	case kind == 1:
		m.put("'", strconv.Itoa(m.r.Intn(20)), "'")
	case kind == 3:
		m.put("(+")
		m.exprs(2, names, deep+1)
		m.put(")")
	case kind == 4:
		m.put("(left")
		m.exprs(1, names, deep+1)
		m.put(")")
	case kind > 4:
		m.call(names, deep)
	default:
		m.put("1")
	}
}

func (m *maker) call(names []string, deep int) {
	s := m.pick([]string{"main", "f", "g", "h", "k"})
	if _, known := m.counts[s]; !known && !m.isOdd() {
		s = "main"
	}
	count := m.counts[s]
	if m.isOdd() {
		count = m.r.Intn(5)
	}
	m.put("(", s)
	m.exprs(min(count, api.MaxArgs), names, deep+1)
	m.put(")")
}

func TestD1Slow(t *testing.T) {
	r := rand.New(rand.NewSource(6))
	times := map[api.Errno]int{}
	for i := range 20000 {
		m := &maker{r: r, odd: []int{0, 8, 40, 200}[i%4]}
		s := m.program()
		l, err := text.Parse(s)
		if err == api.ErrMuch {
			continue
		}
		if err != api.OK {
			t.Fatalf("%s is no text of functions: %d", s, err)
		}
		want := slowCheck(l)
		times[want]++
		if err := Check(l); err != want {
			t.Fatalf("%s: %d comes, not %d", s, err, want)
		}
	}
	for _, err := range []api.Errno{api.OK, api.ErrMany, api.ErrName, api.ErrFit, api.ErrNone, api.ErrMuch} {
		if times[err] < 200 {
			t.Errorf("%d came %d times alone", err, times[err])
		}
	}
}
