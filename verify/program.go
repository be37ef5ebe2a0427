package verify

import (
	"wanderstaff/api"
	"wanderstaff/text"
)

// program tells what is wrong first with p, or the heights of each code, which agents are held against.
func program(p api.Program) ([][]int, api.Errno) {
	if err := heads(p); err != api.OK {
		return nil, err
	}
	all := make([][]int, 0, len(p.Codes))
	for _, c := range p.Codes {
		for _, in := range c.Instrs {
			if err := instr(p, c, in); err != api.OK {
				return nil, err
			}
		}
		heights, err := Heights(c)
		if err != api.OK {
			return nil, err
		}
		all = append(all, heights)
	}
	return all, api.OK
}

// heads looks at all of p but its instructions: a call may stand ahead of the code that it calls.
func heads(p api.Program) api.Errno {
	if len(p.Codes) < 1 || len(p.Codes) > api.MaxFns {
		return api.ErrMany
	}
	if len(p.Words) > api.MaxWords {
		return api.ErrMuch
	}
	for _, s := range p.Words {
		if !text.Word(s) {
			return api.ErrName
		}
	}
	if p.Codes[0].Params != 0 {
		return api.ErrFit
	}
	for _, c := range p.Codes {
		if !between(c.Params, 0, api.MaxArgs) || !between(c.Vars, c.Params, api.MaxVars) || !between(len(c.Instrs), 1, api.MaxCode) {
			return api.ErrRange
		}
	}
	return api.OK
}

// instr tells what is wrong with an instruction of c.
func instr(p api.Program, c api.Code, in api.Instr) api.Errno {
	if !between(in.Op, api.OpInt, api.OpPop) {
		return api.ErrKind
	}
	low, high := bounds(p, c, in.Op)
	if !between(in.A, low, high) {
		return api.ErrRange
	}
	args := 0
	if in.Op == api.OpCall {
		args = p.Codes[in.A].Params
	}
	if in.B != args {
		return api.ErrRange
	}
	return api.OK
}

// bounds is from where to where A of an instruction of c may be.
func bounds(p api.Program, c api.Code, op int) (low, high int) {
	switch op {
	case api.OpInt:
		return -api.MaxInt, api.MaxInt
	case api.OpText:
		return 0, len(p.Words) - 1
	case api.OpLoad, api.OpStore:
		return 0, c.Vars - 1
	case api.OpTwo:
		return api.TwoAdd, api.TwoSame
	case api.OpJump, api.OpElse:
		return 0, len(c.Instrs) - 1
	case api.OpCall:
		return 0, len(p.Codes) - 1
	}
	return 0, 0
}

func between(n, low, high int) bool { return n >= low && n <= high }

func within(n, count int) bool { return between(n, 0, count-1) }
