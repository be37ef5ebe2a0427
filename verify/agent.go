package verify

import "wanderstaff/api"

// counts looks at the numbers of a, and at how many frames and cells it has.
func counts(a api.Agent) api.Errno {
	p := a.Permit
	if !between(a.ID, 0, api.MaxInt) || !between(a.Trip, 0, api.MaxInt) {
		return api.ErrRange
	}
	if !between(p.Fuel, 0, api.MaxFuel) || !between(p.Cells, 0, api.MaxCells) || !between(p.Hops, 0, api.MaxHops) {
		return api.ErrRange
	}
	if !between(len(a.Frames), 1, api.MaxFrames) {
		return api.ErrMany
	}
	if len(a.Heap) > api.MaxCells-p.Cells {
		return api.ErrMuch
	}
	return api.OK
}

// wait is the instruction that a frame is just behind, without what it gives; a frame that goes on has none, op 0.
type wait struct{ op, a int }

// waits is what frame i of a waits for.
func waits(a api.Agent, i int, away bool) wait {
	if i+1 < len(a.Frames) {
		return wait{api.OpCall, a.Frames[i+1].Fn}
	}
	if away {
		return wait{op: api.OpGo}
	}
	return wait{}
}

// frame tells what is wrong with f, but for its values: heights are those of the codes.
func frame(f api.Frame, codes []api.Code, heights [][]int, w wait) api.Errno {
	if !within(f.Fn, len(codes)) {
		return api.ErrRange
	}
	c, ahead := codes[f.Fn], heights[f.Fn]
	if !within(f.At, len(c.Instrs)) || len(f.Vars) != c.Vars {
		return api.ErrRange
	}
	lie := ahead[f.At]
	if w.op != 0 {
		if f.At == 0 || ahead[f.At-1] == nowhere {
			return api.ErrFit
		}
		if in := c.Instrs[f.At-1]; in.Op != w.op || in.A != w.a {
			return api.ErrFit
		}
		lie--
	}
	if len(f.Stack) != lie {
		return api.ErrFit
	}
	return api.OK
}
