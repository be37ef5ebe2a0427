package verify

import "wanderstaff/api"

// nowhere is the height where nothing leads.
const nowhere = -1

// way leads to an instruction, with so many values.
type way struct{ to, height int }

// follow hands come the ways behind an instruction that stands at at, where so many values lie ahead of it.
func follow(in api.Instr, at, height int, come func(to, height int)) api.Errno {
	needs, gives := effect(in)
	if needs > height || in.Op == api.OpReturn && height != 1 {
		return api.ErrFit
	}
	height += gives - needs
	if height > api.MaxStack {
		return api.ErrMuch
	}
	if in.Op != api.OpJump && in.Op != api.OpReturn {
		come(at+1, height)
	}
	if in.Op == api.OpJump || in.Op == api.OpElse {
		come(in.A, height)
	}
	return api.OK
}

// effect is how many values an instruction needs, and how many it gives in their place.
func effect(in api.Instr) (needs, gives int) {
	switch in.Op {
	case api.OpInt, api.OpText, api.OpLoad, api.OpHere:
		return 0, 1
	case api.OpStore, api.OpSay, api.OpElse, api.OpPop, api.OpReturn:
		return 1, 0
	case api.OpTwo, api.OpCell:
		return 2, 1
	case api.OpLeft, api.OpRight, api.OpAsk, api.OpGo:
		return 1, 1
	case api.OpPutL, api.OpPutR:
		return 2, 0
	case api.OpCall:
		// no height falls below 0, whatever stands in B
		return max(in.B, 0), 1
	}
	return 0, 0
}
