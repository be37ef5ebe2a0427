package scope

import "wanderstaff/api"

// body goes through the statements of one function. The maps params and words are of all functions.
type body struct {
	params map[string]int // how many a function has
	words  map[string]int // how often a text stands in the program
	there  map[string]int // the names that are there
	vars   int            // parameters and lets so far, also those whose block has ended
}

// block takes away what was let in it at its end. One map is enough for blocks within one another, for no name is let while it is there.
func (b *body) block(l []api.Stmt) api.Errno {
	var own []string
	for _, st := range l {
		if err := b.stmt(st); err != api.OK {
			return err
		}
		if st.Kind == api.StLet {
			own = append(own, st.Name)
		}
	}
	for _, s := range own {
		delete(b.there, s)
	}
	return api.OK
}

func (b *body) stmt(st api.Stmt) api.Errno {
	if err := b.exprs(st.Args); err != api.OK {
		return err
	}
	switch st.Kind {
	case api.StLet:
		return b.let(st.Name)
	case api.StSet:
		return b.known(st.Name)
	case api.StWhile:
		return b.block(st.Then)
	case api.StIf:
		if err := b.block(st.Then); err != api.OK {
			return err
		}
		return b.block(st.Else)
	}
	return api.OK
}

func (b *body) let(name string) api.Errno {
	if b.known(name) == api.OK {
		return api.ErrName
	}
	if b.vars >= api.MaxVars {
		return api.ErrMuch
	}
	b.vars++
	b.there[name]++
	return api.OK
}

func (b *body) known(name string) api.Errno {
	if _, there := b.there[name]; !there {
		return api.ErrNone
	}
	return api.OK
}

func (b *body) exprs(l []api.Expr) api.Errno {
	for _, x := range l {
		if err := b.expr(x); err != api.OK {
			return err
		}
	}
	return api.OK
}

func (b *body) expr(x api.Expr) api.Errno {
	switch x.Kind {
	case api.ExInt, api.ExHere:
		return api.OK
	case api.ExText:
		b.words[x.Text]++
		return api.OK
	case api.ExName:
		return b.known(x.Text)
	case api.ExCall:
		if err := b.call(x.Text, len(x.Args)); err != api.OK {
			return err
		}
	}
	return b.exprs(x.Args)
}

func (b *body) call(name string, args int) api.Errno {
	count, there := b.params[name]
	if !there {
		return api.ErrNone
	}
	if count != args {
		return api.ErrMany
	}
	return api.OK
}
