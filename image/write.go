package image

import (
	"wanderstaff/api"
	"wanderstaff/wire"
)

// putAgent puts all of a, as it is, behind b.
func putAgent(b []byte, a api.Agent) []byte {
	b = putNums(b, a.ID, a.Trip, a.Permit.Fuel, a.Permit.Cells, a.Permit.Hops)
	b = putMany(b, a.Program.Words, wire.Text)
	b = putMany(b, a.Program.Codes, putCode)
	b = putMany(b, a.Frames, putFrame)
	return putMany(b, a.Heap, putCell)
}

func putCode(b []byte, c api.Code) []byte {
	b = putNums(b, c.Params, c.Vars)
	return putMany(b, c.Instrs, putInstr)
}

func putInstr(b []byte, in api.Instr) []byte { return putNums(b, in.Op, in.A, in.B) }

func putFrame(b []byte, f api.Frame) []byte {
	b = putNums(b, f.Fn, f.At)
	b = putMany(b, f.Vars, putValue)
	return putMany(b, f.Stack, putValue)
}

func putCell(b []byte, c api.Cell) []byte { return putValue(putValue(b, c.Left), c.Right) }

func putValue(b []byte, v api.Value) []byte {
	b = wire.Num(b, v.Kind)
	if v.Kind == api.ValText {
		return wire.Text(b, v.Text)
	}
	return wire.Num(b, v.N)
}

// putMany puts behind b how many l has, and each of them as put does.
func putMany[T any](b []byte, l []T, put func(b []byte, x T) []byte) []byte {
	b = wire.Num(b, len(l))
	for _, x := range l {
		b = put(b, x)
	}
	return b
}

func putNums(b []byte, l ...int) []byte {
	for _, n := range l {
		b = wire.Num(b, n)
	}
	return b
}
