package code

import "wanderstaff/api"

// writer writes the code of one function. The numbers of functions and words are those of the program.
type writer struct {
	fns    map[string]int
	word   func(string) int
	vars   map[string]int // the variable that a name is
	count  int            // variables so far
	high   int            // the most values that lie there at once
	instrs []api.Instr
}

func (w *writer) function(f api.Fn) (api.Code, api.Errno) {
	for _, name := range f.Params {
		w.let(name)
	}
	w.stmts(f.Body)
	w.put(api.OpInt, 0)
	w.put(api.OpReturn, 0)
	if len(w.instrs) > api.MaxCode || w.high > api.MaxStack {
		return api.Code{}, api.ErrMuch
	}
	return api.Code{Params: len(f.Params), Vars: w.count, Instrs: w.instrs}, api.OK
}

// let need not look where a block ends: no name is let while it is there, so whoever asks for one means the variable that was let last.
func (w *writer) let(name string) int {
	n := w.count
	w.vars[name] = n
	w.count++
	return n
}

func (w *writer) put(op, a int) {
	w.instrs = append(w.instrs, api.Instr{Op: op, A: a})
}

// ahead puts an instruction that leads to where nothing stands yet: what is answered is called there, and fills it in.
func (w *writer) ahead(op int) func() {
	from := len(w.instrs)
	w.put(op, 0)
	return func() { w.instrs[from].A = len(w.instrs) }
}

func (w *writer) stmts(l []api.Stmt) {
	for _, st := range l {
		w.stmt(st)
	}
}

func (w *writer) stmt(st api.Stmt) {
	from := len(w.instrs)
	w.exprs(st.Args, 0)
	switch st.Kind {
	case api.StLet:
		w.put(api.OpStore, w.let(st.Name))
	case api.StSet:
		w.put(api.OpStore, w.vars[st.Name])
	case api.StIf:
		otherwise := w.ahead(api.OpElse)
		w.stmts(st.Then)
		behind := w.ahead(api.OpJump)
		otherwise()
		w.stmts(st.Else)
		behind()
	case api.StWhile:
		behind := w.ahead(api.OpElse)
		w.stmts(st.Then)
		w.put(api.OpJump, from)
		behind()
	case api.StSay:
		w.put(api.OpSay, 0)
	case api.StReturn:
		w.put(api.OpReturn, 0)
	case api.StLeft:
		w.put(api.OpPutL, 0)
	case api.StRight:
		w.put(api.OpPutR, 0)
	case api.StDo:
		w.put(api.OpPop, 0)
	}
}

// exprs writes l, where so many values lie below: each one that is made lies below the next.
func (w *writer) exprs(l []api.Expr, below int) {
	for i, x := range l {
		w.expr(x, below+i)
	}
}

func (w *writer) expr(x api.Expr, below int) {
	in, args := w.last(x)
	w.exprs(args, below)
	w.instrs = append(w.instrs, in)
	w.high = max(w.high, below+1)
}

// last is the instruction that ends an expression, and the arguments that come ahead of it: not all kinds have any, whatever stands in Args.
func (w *writer) last(x api.Expr) (api.Instr, []api.Expr) {
	switch x.Kind {
	case api.ExInt:
		return api.Instr{Op: api.OpInt, A: x.N}, nil
	case api.ExText:
		return api.Instr{Op: api.OpText, A: w.word(x.Text)}, nil
	case api.ExName:
		return api.Instr{Op: api.OpLoad, A: w.vars[x.Text]}, nil
	case api.ExHere:
		return api.Instr{Op: api.OpHere}, nil
	case api.ExTwo:
		return api.Instr{Op: api.OpTwo, A: x.N}, x.Args
	case api.ExCall:
		return api.Instr{Op: api.OpCall, A: w.fns[x.Text], B: len(x.Args)}, x.Args
	}
	return api.Instr{Op: plain(x.Kind)}, x.Args
}

// plain is the op of those kinds of expressions that have no number.
func plain(kind int) int {
	switch kind {
	case api.ExCell:
		return api.OpCell
	case api.ExLeft:
		return api.OpLeft
	case api.ExRight:
		return api.OpRight
	case api.ExAsk:
		return api.OpAsk
	case api.ExGo:
		return api.OpGo
	}
	return 0
}
