package image

import (
	"wanderstaff/api"
	"wanderstaff/wire"
)

// reader reads rest from its beginning on. Once there is an error it reads no more, so that the first one stays: what it answers then is nothing.
type reader struct {
	rest []byte
	err  api.Errno
}

func (r *reader) agent() api.Agent {
	var a api.Agent
	a.ID, a.Trip = r.num(), r.num()
	a.Permit = api.Permit{Fuel: r.num(), Cells: r.num(), Hops: r.num()}
	a.Program.Words = many(r, api.MaxWords, r.word)
	a.Program.Codes = many(r, api.MaxFns, r.code)
	a.Frames = many(r, api.MaxFrames, r.frame)
	a.Heap = many(r, api.MaxCells, r.cell)
	return a
}

func (r *reader) word() string { return r.text(api.MaxWord) }

func (r *reader) code() api.Code {
	return api.Code{Params: r.num(), Vars: r.num(), Instrs: many(r, api.MaxCode, r.instr)}
}

func (r *reader) instr() api.Instr { return api.Instr{Op: r.num(), A: r.num(), B: r.num()} }

func (r *reader) frame() api.Frame {
	return api.Frame{Fn: r.num(), At: r.num(), Vars: many(r, api.MaxVars, r.value), Stack: many(r, api.MaxStack, r.value)}
}

func (r *reader) cell() api.Cell { return api.Cell{Left: r.value(), Right: r.value()} }

// value reads a number behind a kind that there is not, too: that it is none is told when the whole agent is looked at.
func (r *reader) value() api.Value {
	kind := r.num()
	if kind == api.ValText {
		return api.Value{Kind: kind, Text: r.text(api.MaxBytes)}
	}
	return api.Value{Kind: kind, N: r.num()}
}

// many reads how many there are, at most so many, and each of them as one does.
func many[T any](r *reader, most int, one func() T) []T {
	count := r.num()
	if count < 0 || count > most {
		r.err = api.ErrMuch
		return nil
	}
	var l []T
	for range count {
		l = append(l, one())
	}
	return l
}

func (r *reader) num() int {
	if r.err != api.OK {
		return 0
	}
	n, size, err := wire.GetNum(r.rest)
	r.rest, r.err = r.rest[size:], err
	return n
}

func (r *reader) text(most int) string {
	if r.err != api.OK {
		return ""
	}
	s, size, err := wire.GetText(r.rest, most)
	r.rest, r.err = r.rest[size:], err
	return s
}
