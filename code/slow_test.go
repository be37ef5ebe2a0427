package code

import (
	"math/rand"
	"slices"
	"strconv"
	"testing"

	"wanderstaff/api"
	"wanderstaff/scope"
	"wanderstaff/verify"
)

// slow writes code by the chapter's words in another way: each piece is made whole, for the place where it begins, and names are looked for in the blocks around.
type slow struct {
	fns  []api.Fn
	lets int // of the function, so far
	high int // of its statements, so far
}

// known is a name that is there.
type known struct {
	name string
	n    int
}

func slowMake(l []api.Fn) (api.Program, api.Errno) {
	var p api.Program
	much := false
	for _, f := range l {
		c := &slow{fns: l}
		var names []known
		for i, s := range f.Params {
			names = append(names, known{s, i})
			c.lets++
		}
		in := c.block(f.Body, 0, names)
		in = append(in, api.Instr{Op: api.OpInt}, api.Instr{Op: api.OpReturn})
		much = much || len(in) > 200 || c.high > 16
		p.Codes = append(p.Codes, api.Code{Params: len(f.Params), Vars: c.lets, Instrs: in})
	}
	if much {
		return api.Program{}, api.ErrMuch
	}
	p.Words = slowWords(l)
	// words are looked up last of all
	for _, c := range p.Codes {
		for i, in := range c.Instrs {
			if in.Op == api.OpText {
				c.Instrs[i].A = slices.Index(p.Words, strconv.Itoa(in.A))
			}
		}
	}
	return p, api.OK
}

func slowWords(l []api.Fn) (words []string) {
	var exprs func([]api.Expr)
	exprs = func(l []api.Expr) {
		for _, x := range l {
			if x.Kind == api.ExText && !slices.Contains(words, x.Text) {
				words = append(words, x.Text)
			}
			exprs(x.Args)
		}
	}
	var stmts func([]api.Stmt)
	stmts = func(l []api.Stmt) {
		for _, st := range l {
			exprs(st.Args)
			stmts(st.Then)
			stmts(st.Else)
		}
	}
	for _, f := range l {
		stmts(f.Body)
	}
	return words
}

func (c *slow) block(l []api.Stmt, at int, names []known) (out []api.Instr) {
	names = slices.Clone(names)
	for _, st := range l {
		in := c.stmt(st, at+len(out), names)
		if st.Kind == api.StLet {
			names = append(names, known{st.Name, in[len(in)-1].A})
		}
		out = append(out, in...)
	}
	return out
}

func find(names []known, s string) int {
	return names[slices.IndexFunc(names, func(k known) bool { return k.name == s })].n
}

// stmt is a statement whose first instruction stands at at.
func (c *slow) stmt(st api.Stmt, at int, names []known) []api.Instr {
	in := c.exprs(st.Args, names)
	c.high = max(c.high, highest(in))
	at += len(in)
	switch st.Kind {
	case api.StLet:
		c.lets++
		return append(in, api.Instr{Op: api.OpStore, A: c.lets - 1})
	case api.StSet:
		return append(in, api.Instr{Op: api.OpStore, A: find(names, st.Name)})
	case api.StIf:
		then := c.block(st.Then, at+1, names)
		other := c.block(st.Else, at+1+len(then)+1, names)
		begin := at + 1 + len(then) + 1
		return slices.Concat(in, []api.Instr{{Op: api.OpElse, A: begin}}, then, []api.Instr{{Op: api.OpJump, A: begin + len(other)}}, other)
	case api.StWhile:
		then := c.block(st.Then, at+1, names)
		return slices.Concat(in, []api.Instr{{Op: api.OpElse, A: at + 1 + len(then) + 1}}, then, []api.Instr{{Op: api.OpJump, A: at - len(in)}})
	}
	ops := []int{api.StSay: api.OpSay, api.StReturn: api.OpReturn, api.StLeft: api.OpPutL, api.StRight: api.OpPutR, api.StDo: api.OpPop}
	return append(in, api.Instr{Op: ops[st.Kind]})
}

// exprs has of a text its own number as A, which is its word's number later on.
func (c *slow) exprs(l []api.Expr, names []known) (out []api.Instr) {
	ops := []int{api.ExInt: api.OpInt, api.ExText: api.OpText, api.ExName: api.OpLoad, api.ExTwo: api.OpTwo, api.ExCell: api.OpCell, api.ExLeft: api.OpLeft, api.ExRight: api.OpRight, api.ExAsk: api.OpAsk, api.ExHere: api.OpHere, api.ExGo: api.OpGo, api.ExCall: api.OpCall}
	for _, x := range l {
		in := api.Instr{Op: ops[x.Kind]}
		switch x.Kind {
		case api.ExInt, api.ExTwo:
			in.A = x.N
		case api.ExText:
			in.A, _ = strconv.Atoi(x.Text)
		case api.ExName:
			in.A = find(names, x.Text)
		case api.ExCall:
			in.A = slices.IndexFunc(c.fns, func(f api.Fn) bool { return f.Name == x.Text })
			in.B = len(x.Args)
		}
		out = append(out, c.exprs(x.Args, names)...)
		out = append(out, in)
	}
	return out
}

// highest is the most values that lie there, as those instructions take and give them one by one (F1).
func highest(l []api.Instr) (high int) {
	lie := 0
	for _, in := range l {
		switch in.Op {
		case api.OpTwo, api.OpCell:
			lie -= 2
		case api.OpLeft, api.OpRight, api.OpAsk, api.OpGo:
			lie--
		case api.OpCall:
			lie -= in.B
		}
		lie++
		high = max(high, lie)
	}
	return high
}

// maker makes functions with which nothing is wrong. Its texts are numbers, and the spare room behind each of its lists holds what is not to be looked at.
type maker struct {
	r     *rand.Rand
	heads []api.Fn
	most  int // statements of a block
	steep int // the greater, the more expressions have others within them
	vars  int
}

var (
	strayExpr = api.Expr{Kind: api.ExText, Text: "stray"}
	strayStmt = api.Stmt{Kind: api.StLet, Name: "stray", Args: []api.Expr{strayExpr}}
)

func (m *maker) program() []api.Fn {
	for _, s := range []string{"main", "f", "g", "h", "k"}[:1+m.r.Intn(5)] {
		f := api.Fn{Name: s}
		for i := range m.r.Intn(5) {
			if len(m.heads) > 0 {
				f.Params = append(f.Params, string(rune('a'+i)))
			}
		}
		f.Params = append(f.Params, "stray")[:len(f.Params)]
		m.heads = append(m.heads, f)
	}
	l := slices.Clone(m.heads)
	for i, f := range m.heads {
		m.vars = len(f.Params)
		l[i].Body = m.stmts(f.Params, 0)
	}
	return append(l, api.Fn{Name: "stray"})[:len(l)]
}

func (m *maker) stmts(names []string, deep int) (l []api.Stmt) {
	names = slices.Clone(names)
	for range m.r.Intn(m.most + 1) {
		st := api.Stmt{Kind: 1 + m.r.Intn(9)}
		switch {
		case st.Kind == api.StLet && m.vars < api.MaxVars:
			m.vars++
			st.Name = m.fresh(names)
			st.Args = m.exprs(1, names, deep+1)
			names = append(names, st.Name)
		case st.Kind == api.StSet && len(names) > 0:
			st.Name = names[m.r.Intn(len(names))]
			st.Args = m.exprs(1, names, deep+1)
		case st.Kind == api.StLeft, st.Kind == api.StRight:
			st.Args = m.exprs(2, names, deep+1)
		case st.Kind == api.StIf && deep < 4, st.Kind == api.StWhile && deep < 4:
			st.Args = m.exprs(1, names, deep+1)
			st.Then = m.stmts(names, deep+1)
			if st.Kind == api.StIf {
				st.Else = m.stmts(names, deep+1)
			}
		default:
			st.Kind = []int{api.StSay, api.StReturn, api.StDo}[m.r.Intn(3)]
			st.Args = m.exprs(1, names, deep+1)
		}
		l = append(l, st)
	}
	return append(l, strayStmt)[:len(l)]
}

// fresh is a name of none of those; there are few, so that blocks beside each other let the same ones.
func (m *maker) fresh(names []string) string {
	for {
		if s := string(rune('a' + m.r.Intn(9))); !slices.Contains(names, s) {
			return s
		}
	}
}

func (m *maker) exprs(count int, names []string, deep int) (l []api.Expr) {
	for range count {
		l = append(l, m.expr(names, deep))
	}
	return append(l, strayExpr)[:len(l)]
}

func (m *maker) expr(names []string, deep int) api.Expr {
	if deep == api.MaxDeep || m.r.Intn(m.steep) < 4 {
		return m.leaf(names)
	}
	x := api.Expr{Kind: api.ExTwo + m.r.Intn(8)}
	count := []int{api.ExTwo: 2, api.ExCell: 2, api.ExLeft: 1, api.ExRight: 1, api.ExAsk: 1, api.ExGo: 1, api.ExCall: 0}[x.Kind]
	switch x.Kind {
	case api.ExTwo:
		x.N = 1 + m.r.Intn(5)
	case api.ExCall:
		f := m.heads[m.r.Intn(len(m.heads))]
		x.Text, count = f.Name, len(f.Params)
	}
	x.Args = m.exprs(count, names, deep+1)
	return x
}

func (m *maker) leaf(names []string) api.Expr {
	switch kind := m.r.Intn(5); {
	case kind < 2 && len(names) > 0:
		return api.Expr{Kind: api.ExName, Text: names[m.r.Intn(len(names))]}
	case kind == 2:
		return api.Expr{Kind: api.ExText, Text: strconv.Itoa(m.r.Intn(16))}
	case kind == 3:
		return api.Expr{Kind: api.ExHere}
	}
	return api.Expr{Kind: api.ExInt, N: m.r.Intn(2*api.MaxInt+1) - api.MaxInt}
}

func TestE1Slow(t *testing.T) {
	r := rand.New(rand.NewSource(7))
	times := map[api.Errno]int{}
	for range 20000 {
		m := &maker{r: r, most: 1 + r.Intn(6), steep: 5 + r.Intn(14)}
		l := m.program()
		before := tell(l)
		if err := scope.Check(l); err != api.OK {
			t.Fatalf("%s is not right: %d", before, err)
		}
		want, wantErr := slowMake(l)
		times[wantErr]++
		got, err := Make(l)
		if err != wantErr || !same(got, want) {
			t.Fatalf("%s: %s, %d comes, not %s, %d", before, tell(got), err, tell(want), wantErr)
		}
		if tell(l) != before {
			t.Fatalf("%s has become %s", before, tell(l))
		}
		// what is made is right (F2)
		if err == api.OK && verify.Program(got) != api.OK {
			t.Fatalf("%s: what comes is not right: %d", before, verify.Program(got))
		}
	}
	for _, err := range []api.Errno{api.OK, api.ErrMuch} {
		if times[err] < 1000 {
			t.Errorf("%d came %d times alone", err, times[err])
		}
	}
}

func same(a, b api.Program) bool {
	return slices.Equal(a.Words, b.Words) && slices.EqualFunc(a.Codes, b.Codes, func(c, d api.Code) bool {
		return c.Params == d.Params && c.Vars == d.Vars && slices.Equal(c.Instrs, d.Instrs)
	})
}
