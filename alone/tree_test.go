package alone

import (
	"maps"
	"strconv"

	"wanderstaff/api"
)

// A second reading of I2, without agents, code or bytes: the text's own statements are done one by one, cells are
// pointers, and going is nothing but another number of a place.

// leaf is a number, a text, or a pair.
type leaf struct {
	kind, n int
	s       string
	pair    *twin
}

type twin struct{ left, right leaf }

// call is what one call holds: what each let of its function has made, whether its block is over or not.
type call struct {
	slots map[*api.Stmt]*leaf
	args  []*leaf
}

// stop is an end ahead of time.
type stop api.Errno

type walker struct {
	fns    map[string]*api.Fn
	l      []api.Spot
	at     int
	permit api.Permit
	calls  []*call
	lie    []leaf // what is worked out, and waits
	said   []string
	// how often it went, stayed where a place was full, and had less fuel then
	went, full, cut int
}

// walk is what must come of Run, of functions with which nothing is wrong.
func walk(fns []api.Fn, permit api.Permit, l []api.Spot, at int) (w *walker, end api.End) {
	w = &walker{fns: map[string]*api.Fn{}, l: l, at: at, permit: permit}
	for i := range fns {
		w.fns[fns[i].Name] = &fns[i]
	}
	defer func() {
		if x := recover(); x != nil {
			end = api.End{Err: api.Errno(x.(stop))}
		}
	}()
	return w, api.End{Text: w.show(w.enter(&fns[0], nil), 4)}
}

// step is what each instruction costs; all of them are counted.
func (w *walker) step() {
	if w.permit.Fuel == 0 {
		panic(stop(api.ErrFuel))
	}
	w.permit.Fuel--
}

func (w *walker) enter(f *api.Fn, args []leaf) leaf {
	c := &call{slots: map[*api.Stmt]*leaf{}}
	names := map[string]*leaf{}
	for i, name := range f.Params {
		v := args[i]
		c.args = append(c.args, &v)
		names[name] = &v
	}
	w.calls = append(w.calls, c)
	v := w.block(f.Body, names)
	if v == nil {
		w.step()
		w.step()
		v = &leaf{}
	}
	w.calls = w.calls[:len(w.calls)-1]
	return *v
}

// block is what is returned in it; nil, if nothing is.
func (w *walker) block(l []api.Stmt, outer map[string]*leaf) *leaf {
	names := maps.Clone(outer)
	for i := range l {
		if v := w.stmt(&l[i], names); v != nil {
			return v
		}
	}
	return nil
}

func (w *walker) stmt(s *api.Stmt, names map[string]*leaf) *leaf {
	if s.Kind == api.StWhile {
		return w.loop(s, names)
	}
	l := w.all(s.Args, names)
	w.step()
	switch s.Kind {
	case api.StLet:
		c := w.calls[len(w.calls)-1]
		if c.slots[s] == nil {
			c.slots[s] = new(leaf)
		}
		*c.slots[s] = l[0]
		names[s.Name] = c.slots[s]
	case api.StSet:
		*names[s.Name] = l[0]
	case api.StSay:
		w.said = append(w.said, w.show(l[0], 4))
	case api.StReturn:
		return &l[0]
	case api.StLeft:
		l[0].cell().left = l[1]
	case api.StRight:
		l[0].cell().right = l[1]
	case api.StIf:
		if l[0] == (leaf{}) {
			return w.block(s.Else, names)
		}
		if v := w.block(s.Then, names); v != nil {
			return v
		}
		w.step()
	}
	return nil
}

func (w *walker) loop(s *api.Stmt, names map[string]*leaf) *leaf {
	for {
		l := w.all(s.Args, names)
		w.step()
		if l[0] == (leaf{}) {
			return nil
		}
		if v := w.block(s.Then, names); v != nil {
			return v
		}
		w.step()
	}
}

// cell is of what must be a pair.
func (v leaf) cell() *twin {
	if v.kind != api.ValCell {
		panic(stop(api.ErrType))
	}
	return v.pair
}

// word is of what must be a text.
func (v leaf) word() string {
	if v.kind != api.ValText {
		panic(stop(api.ErrType))
	}
	return v.s
}

func number(n int) leaf { return leaf{n: n % (1<<30 + 1)} }

func word(s string) leaf { return leaf{kind: api.ValText, s: s[:min(60, len(s))]} }

func of(v api.Value) leaf { return leaf{kind: v.Kind, n: v.N, s: v.Text} }

func truth(is bool) leaf {
	if is {
		return leaf{n: 1}
	}
	return leaf{}
}

// all works out l: what comes of those ahead lies there as long as those behind are worked out.
func (w *walker) all(l []api.Expr, names map[string]*leaf) []leaf {
	below := len(w.lie)
	for _, x := range l {
		w.lie = append(w.lie, w.expr(x, names))
	}
	out := append([]leaf{}, w.lie[below:]...)
	w.lie = w.lie[:below]
	return out
}

func (w *walker) expr(x api.Expr, names map[string]*leaf) leaf {
	// a call that may not be takes nothing off, but who has died has no more use for it
	l := w.all(x.Args, names)
	w.step()
	switch x.Kind {
	case api.ExInt:
		return leaf{n: x.N}
	case api.ExText:
		return word(x.Text)
	case api.ExName:
		return *names[x.Text]
	case api.ExTwo:
		return two(x.N, l[0], l[1])
	case api.ExCell:
		if w.permit.Cells == 0 {
			panic(stop(api.ErrFull))
		}
		w.permit.Cells--
		return leaf{kind: api.ValCell, pair: &twin{l[0], l[1]}}
	case api.ExLeft:
		return l[0].cell().left
	case api.ExRight:
		return l[0].cell().right
	case api.ExAsk:
		return w.ask(l[0].word())
	case api.ExHere:
		return word(w.l[w.at].Name)
	case api.ExGo:
		return w.leave(l[0].word())
	}
	if len(w.calls) == 12 {
		panic(stop(api.ErrDeep))
	}
	return w.enter(w.fns[x.Text], l)
}

func two(op int, a, b leaf) leaf {
	texts := a.kind == api.ValText && b.kind == api.ValText
	switch {
	case op == api.TwoSame:
		return truth(a == b)
	case texts && op == api.TwoAdd:
		return word(a.s + b.s)
	case texts && op == api.TwoLess:
		return truth(a.s < b.s)
	case a.kind != api.ValInt || b.kind != api.ValInt:
		panic(stop(api.ErrType))
	case op == api.TwoAdd:
		return number(a.n + b.n)
	case op == api.TwoSub:
		return number(a.n - b.n)
	case op == api.TwoMul:
		return number(a.n * b.n)
	}
	return truth(a.n < b.n)
}

func (w *walker) ask(key string) leaf {
	for _, f := range w.l[w.at].Facts {
		if f.Key == key {
			return of(f.Value)
		}
	}
	return leaf{}
}

func (w *walker) leave(name string) leaf {
	if w.permit.Hops == 0 {
		return leaf{}
	}
	w.permit.Hops--
	for i, s := range w.l {
		if s.Name != name || i == w.at {
			continue
		}
		if w.held() > s.Cells {
			w.full++
			return leaf{}
		}
		w.went++
		if s.Fuel < w.permit.Fuel {
			w.cut++
			w.permit.Fuel = s.Fuel
		}
		w.at = i
		return leaf{n: 1}
	}
	return leaf{}
}

// held is how many pairs anything that is held leads to.
func (w *walker) held() int {
	seen := map[*twin]bool{}
	var come func(v leaf)
	come = func(v leaf) {
		if v.pair != nil && !seen[v.pair] {
			seen[v.pair] = true
			come(v.pair.left)
			come(v.pair.right)
		}
	}
	for _, v := range w.lie {
		come(v)
	}
	for _, c := range w.calls {
		for _, v := range c.args {
			come(*v)
		}
		for _, v := range c.slots {
			come(*v)
		}
	}
	return len(seen)
}

func (w *walker) show(v leaf, deep int) string {
	switch {
	case v.kind == api.ValInt:
		return strconv.Itoa(v.n)
	case v.kind == api.ValText:
		return v.s
	case deep == 0:
		return ".."
	}
	return "(" + w.show(v.pair.left, deep-1) + " " + w.show(v.pair.right, deep-1) + ")"
}
