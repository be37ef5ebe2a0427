package text

import "wanderstaff/api"

func (r *reader) function() (api.Fn, api.Errno) {
	var f api.Fn
	err := r.bracket('(')
	if err == api.OK {
		f.Name, err = r.name()
	}
	if err == api.OK {
		f.Params, err = r.params()
	}
	if err == api.OK {
		f.Body, err = r.stmts(0)
	}
	return f, err
}

func (r *reader) params() ([]string, api.Errno) {
	var l []string
	if err := r.bracket('('); err != api.OK {
		return nil, err
	}
	err := r.upTo(func() api.Errno {
		s, err := r.name()
		l = append(l, s)
		return err
	})
	return l, err
}

// block is statements with brackets of their own.
func (r *reader) block(deep int) ([]api.Stmt, api.Errno) {
	if err := r.bracket('('); err != api.OK {
		return nil, err
	}
	return r.stmts(deep)
}

// stmts is statements with so many parts around each, and goes behind the ) that ends them.
func (r *reader) stmts(deep int) ([]api.Stmt, api.Errno) {
	var l []api.Stmt
	err := r.upTo(func() api.Errno {
		st, err := r.stmt(deep)
		l = append(l, st)
		return err
	})
	return l, err
}

// stmt need not look at deep itself: a statement with others around it stands behind an expression that is as deep, and ErrDeep is told there.
func (r *reader) stmt(deep int) (api.Stmt, api.Errno) {
	if err := r.bracket('('); err != api.OK {
		return api.Stmt{}, err
	}
	w, err := r.word()
	if err != api.OK {
		return api.Stmt{}, err
	}
	f := r.forms[w]
	if f.stmt == 0 {
		return api.Stmt{}, api.ErrKind
	}
	st := api.Stmt{Kind: f.stmt}
	if f.stmt == api.StLet || f.stmt == api.StSet {
		if st.Name, err = r.name(); err != api.OK {
			return api.Stmt{}, err
		}
	}
	for range f.args {
		x, err := r.expr(deep + 1)
		if err != api.OK {
			return api.Stmt{}, err
		}
		st.Args = append(st.Args, x)
	}
	err = r.rest(&st, deep)
	return st, err
}

// rest is what a statement has behind its expressions, with the ) that ends it.
func (r *reader) rest(st *api.Stmt, deep int) api.Errno {
	var err api.Errno
	switch st.Kind {
	case api.StWhile:
		st.Then, err = r.stmts(deep + 1)
		return err
	case api.StIf:
		if st.Then, err = r.block(deep + 1); err != api.OK {
			return err
		}
		if st.Else, err = r.block(deep + 1); err != api.OK {
			return err
		}
	}
	return r.bracket(')')
}

func (r *reader) expr(deep int) (api.Expr, api.Errno) {
	c, err := r.next()
	if err != api.OK {
		return api.Expr{}, err
	}
	if c == ')' {
		return api.Expr{}, api.ErrForm
	}
	if deep > api.MaxDeep {
		return api.Expr{}, api.ErrDeep
	}
	switch c {
	case '\'':
		s, err := r.quoted()
		return api.Expr{Kind: api.ExText, Text: s}, err
	case '(':
		r.at++
		return r.formed(deep)
	}
	return r.single()
}

// single is an expression of one word: a number, or a name.
func (r *reader) single() (api.Expr, api.Errno) {
	w, err := r.word()
	if err != api.OK {
		return api.Expr{}, err
	}
	if isNumber(w) {
		n, err := number(w)
		return api.Expr{Kind: api.ExInt, N: n}, err
	}
	if !isName(w, r.forms) {
		return api.Expr{}, api.ErrName
	}
	return api.Expr{Kind: api.ExName, Text: w}, api.OK
}

// formed is an expression of others, behind its (.
func (r *reader) formed(deep int) (api.Expr, api.Errno) {
	w, err := r.word()
	if err != api.OK {
		return api.Expr{}, err
	}
	f := r.forms[w]
	x := api.Expr{Kind: f.expr, N: f.op}
	if f.expr == 0 {
		if !isName(w, r.forms) {
			return api.Expr{}, api.ErrName
		}
		x = api.Expr{Kind: api.ExCall, Text: w}
	}
	err = r.upTo(func() api.Errno {
		arg, err := r.expr(deep + 1)
		x.Args = append(x.Args, arg)
		return err
	})
	if err != api.OK {
		return api.Expr{}, err
	}
	count := len(x.Args)
	if x.Kind == api.ExCall && count > api.MaxArgs || x.Kind != api.ExCall && count != f.args {
		return api.Expr{}, api.ErrMany
	}
	return x, api.OK
}
