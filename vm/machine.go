package vm

import (
	"wanderstaff/api"
	"wanderstaff/cell"
)

// deep is how far cells within one another are told.
const deep = 4

// machine is an agent, of memory of its own, and the place where it goes on.
type machine struct {
	agent api.Agent
	spot  api.Spot
}

// step does one instruction of the last frame; an event without a kind is none.
func (m *machine) step() api.Event {
	f := m.last()
	in := m.agent.Program.Codes[f.Fn].Instrs[f.At]
	f.At++
	m.agent.Permit.Fuel--
	switch in.Op {
	case api.OpInt:
		m.push(number(in.A))
	case api.OpText:
		m.push(cell.Text(m.agent.Program.Words[in.A]))
	case api.OpLoad:
		m.push(f.Vars[in.A])
	case api.OpStore:
		f.Vars[in.A] = m.pop()
	case api.OpTwo:
		return m.two(in.A)
	case api.OpCell:
		return m.join()
	case api.OpLeft, api.OpRight:
		return m.part(in.Op)
	case api.OpPutL, api.OpPutR:
		return m.put(in.Op)
	case api.OpAsk:
		return m.ask()
	case api.OpHere:
		m.push(cell.Text(m.spot.Name))
	case api.OpGo:
		return m.leave()
	case api.OpSay:
		return m.tell(api.EvSay, m.pop())
	case api.OpJump:
		f.At = in.A
	case api.OpElse:
		if v := m.pop(); v.Kind == api.ValInt && v.N == 0 {
			f.At = in.A
		}
	case api.OpCall:
		return m.call(in.A, in.B)
	case api.OpReturn:
		return m.giveBack()
	case api.OpPop:
		m.pop()
	}
	return api.Event{}
}

func (m *machine) two(op int) api.Event {
	b, a := m.pop(), m.pop()
	v, err := cell.Two(op, a, b)
	if err != api.OK {
		return dead(err)
	}
	m.push(v)
	return api.Event{}
}

func (m *machine) join() api.Event {
	right, left := m.pop(), m.pop()
	if m.agent.Permit.Cells <= 0 {
		return dead(api.ErrFull)
	}
	m.agent.Permit.Cells--
	m.push(api.Value{Kind: api.ValCell, N: len(m.agent.Heap)})
	m.agent.Heap = append(m.agent.Heap, api.Cell{Left: left, Right: right})
	return api.Event{}
}

func (m *machine) part(op int) api.Event {
	v := m.pop()
	if v.Kind != api.ValCell {
		return dead(api.ErrType)
	}
	c := m.agent.Heap[v.N]
	if op == api.OpLeft {
		m.push(c.Left)
	} else {
		m.push(c.Right)
	}
	return api.Event{}
}

func (m *machine) put(op int) api.Event {
	v, into := m.pop(), m.pop()
	if into.Kind != api.ValCell {
		return dead(api.ErrType)
	}
	c := &m.agent.Heap[into.N]
	if op == api.OpPutL {
		c.Left = v
	} else {
		c.Right = v
	}
	return api.Event{}
}

func (m *machine) ask() api.Event {
	key := m.pop()
	if key.Kind != api.ValText {
		return dead(api.ErrType)
	}
	for _, f := range m.spot.Facts {
		if f.Key == key.Text {
			m.push(f.Value)
			return api.Event{}
		}
	}
	m.push(number(0))
	return api.Event{}
}

// leave gives nothing where the agent sets out: whether it may be is answered where it comes to.
func (m *machine) leave() api.Event {
	to := m.pop()
	if to.Kind != api.ValText {
		return dead(api.ErrType)
	}
	if m.agent.Permit.Hops <= 0 {
		m.push(number(0))
		return api.Event{}
	}
	m.agent.Permit.Hops--
	return api.Event{Kind: api.EvGo, Text: to.Text}
}

func (m *machine) call(fn, args int) api.Event {
	if len(m.agent.Frames) >= api.MaxFrames {
		return dead(api.ErrDeep)
	}
	f := m.last()
	rest := len(f.Stack) - args
	next := begun(m.agent.Program.Codes, fn, f.Stack[rest:])
	f.Stack = f.Stack[:rest]
	m.agent.Frames = append(m.agent.Frames, next)
	return api.Event{}
}

func (m *machine) giveBack() api.Event {
	v := m.pop()
	m.agent.Frames = m.agent.Frames[:len(m.agent.Frames)-1]
	if len(m.agent.Frames) == 0 {
		return m.tell(api.EvDone, v)
	}
	m.push(v)
	return api.Event{}
}

func (m *machine) tell(kind int, v api.Value) api.Event {
	return api.Event{Kind: kind, Text: cell.Show(m.agent.Heap, v, deep)}
}

// number is n itself: where a rest is to be taken (chapter 1: Int), the document names it.
func number(n int) api.Value { return api.Value{Kind: api.ValInt, N: n} }

func dead(err api.Errno) api.Event { return api.Event{Kind: api.EvDead, Err: err} }

// begun is a frame of the code fn, at its beginning, whose first variables are args.
func begun(codes []api.Code, fn int, args []api.Value) api.Frame {
	vars := make([]api.Value, codes[fn].Vars)
	copy(vars, args)
	return api.Frame{Fn: fn, Vars: vars}
}

func (m *machine) last() *api.Frame { return &m.agent.Frames[len(m.agent.Frames)-1] }

func (m *machine) push(v api.Value) {
	f := m.last()
	f.Stack = append(f.Stack, v)
}

func (m *machine) pop() api.Value {
	f := m.last()
	top := len(f.Stack) - 1
	v := f.Stack[top]
	f.Stack = f.Stack[:top]
	return v
}
