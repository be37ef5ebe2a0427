package verify

import (
	"math/rand"
	"slices"
	"testing"

	"wanderstaff/api"
	"wanderstaff/cell"
	"wanderstaff/text"
)

// taken is what each op needs, and gives, in turn from OpInt on; of OpCall what it needs is B.
const taken = "01 01 01 10 21 21 11 11 20 20 11 01 11 10 00 10 .1 10 10 "

func slowTaken(in api.Instr) (needs, gives int) {
	s := taken[3*(in.Op-1):]
	needs, gives = int(s[0]-'0'), int(s[1]-'0')
	if in.Op == api.OpCall {
		needs = in.B
	}
	return needs, gives
}

// slowHeights goes one step further on all ways at once, again and again.
func slowHeights(c api.Code) ([]int, api.Errno) {
	out := slices.Repeat([]int{-1}, len(c.Instrs))
	for now := [][2]int{{0, 0}}; len(now) > 0; {
		var then [][2]int
		for _, w := range now {
			switch at, lie := w[0], w[1]; {
			case at == len(c.Instrs):
				return nil, api.ErrEnd
			case out[at] >= 0 && out[at] != lie:
				return nil, api.ErrFit
			case out[at] < 0:
				out[at] = lie
				in := c.Instrs[at]
				needs, gives := slowTaken(in)
				if lie < needs || in.Op == api.OpReturn && lie > 1 {
					return nil, api.ErrFit
				}
				if lie-needs+gives > 16 {
					return nil, api.ErrMuch
				}
				lie += gives - needs
				switch in.Op {
				case api.OpJump:
					then = append(then, [2]int{in.A, lie})
				case api.OpElse:
					then = append(then, [2]int{at + 1, lie}, [2]int{in.A, lie})
				case api.OpReturn:
				default:
					then = append(then, [2]int{at + 1, lie})
				}
			}
		}
		now = then
	}
	return out, api.OK
}

// faults are those that are found, in turn: the first one counts.
type faults []api.Errno

func (f *faults) add(err api.Errno, is bool) {
	if is {
		*f = append(*f, err)
	}
}

func (f faults) first() api.Errno {
	for _, err := range f {
		if err != api.OK {
			return err
		}
	}
	return api.OK
}

func slowProgram(p api.Program) api.Errno {
	var f faults
	f.add(api.ErrMany, len(p.Codes) == 0 || len(p.Codes) > 5)
	f.add(api.ErrMuch, len(p.Words) > 16)
	for _, s := range p.Words {
		f.add(api.ErrName, !text.Word(s))
	}
	if f.first() != api.OK {
		return f.first()
	}
	f.add(api.ErrFit, p.Codes[0].Params != 0)
	for _, c := range p.Codes {
		f.add(api.ErrRange, c.Params < 0 || c.Params > 4 || c.Vars < c.Params || c.Vars > 8 || len(c.Instrs) == 0 || len(c.Instrs) > 200)
	}
	for _, c := range p.Codes {
		for _, in := range c.Instrs {
			f.add(api.ErrKind, in.Op < 1 || in.Op > 19)
			f.add(api.ErrRange, !slowNumbers(p, c, in))
		}
		if f.first() != api.OK {
			return f.first()
		}
		_, err := slowHeights(c)
		f.add(err, true)
	}
	return f.first()
}

// slowNumbers tells whether A and B may be.
func slowNumbers(p api.Program, c api.Code, in api.Instr) bool {
	one := map[int]int{api.OpText: len(p.Words), api.OpLoad: c.Vars, api.OpStore: c.Vars, api.OpJump: len(c.Instrs), api.OpElse: len(c.Instrs), api.OpCall: len(p.Codes)}
	count, some := one[in.Op]
	switch {
	case some && (in.A < 0 || in.A >= count):
		return false
	case in.Op == api.OpCall:
		return in.B == p.Codes[in.A].Params
	case in.B != 0:
		return false
	case in.Op == api.OpInt:
		return in.A >= -1<<30 && in.A <= 1<<30
	case in.Op == api.OpTwo:
		return in.A >= 1 && in.A <= 5
	}
	return some || in.A == 0
}

func slowAgent(a api.Agent, away bool) api.Errno {
	f := faults{slowProgram(a.Program)}
	for _, n := range [][2]int{{a.ID, 1 << 30}, {a.Trip, 1 << 30}, {a.Permit.Fuel, 2000}, {a.Permit.Cells, 60}, {a.Permit.Hops, 12}} {
		f.add(api.ErrRange, n[0] < 0 || n[0] > n[1])
	}
	f.add(api.ErrMany, len(a.Frames) == 0 || len(a.Frames) > 12)
	f.add(api.ErrMuch, len(a.Heap)+a.Permit.Cells > 60)
	if f.first() != api.OK {
		return f.first()
	}
	for i := range a.Frames {
		f = append(f, slowFrame(a, i, away))
		for _, v := range slices.Concat(a.Frames[i].Vars, a.Frames[i].Stack) {
			f = append(f, cell.Wrong(v, len(a.Heap)))
		}
	}
	for _, c := range a.Heap {
		f = append(f, cell.Wrong(c.Left, len(a.Heap)), cell.Wrong(c.Right, len(a.Heap)))
	}
	return f.first()
}

func slowFrame(a api.Agent, i int, away bool) api.Errno {
	f := a.Frames[i]
	if f.Fn < 0 || f.Fn >= len(a.Program.Codes) {
		return api.ErrRange
	}
	c := a.Program.Codes[f.Fn]
	if f.At < 0 || f.At >= len(c.Instrs) || len(f.Vars) != c.Vars {
		return api.ErrRange
	}
	heights, _ := slowHeights(c)
	isLast := i == len(a.Frames)-1
	if isLast && !away {
		return fitting(len(f.Stack) == heights[f.At])
	}
	if f.At == 0 || heights[f.At-1] < 0 || len(f.Stack)+1 != heights[f.At] {
		return api.ErrFit
	}
	in := c.Instrs[f.At-1]
	if isLast {
		return fitting(in.Op == api.OpGo)
	}
	return fitting(in.Op == api.OpCall && in.A == a.Frames[i+1].Fn)
}

func fitting(is bool) api.Errno {
	if is {
		return api.OK
	}
	return api.ErrFit
}

// maker makes programs, and agents, of which many are right.
type maker struct {
	r    *rand.Rand
	tall bool // many values lie there
}

func (m *maker) program() api.Program {
	m.tall = m.r.Intn(8) == 0
	p := api.Program{Codes: make([]api.Code, 1+m.r.Intn(5))}
	for range 1 + m.r.Intn(16) {
		p.Words = append(p.Words, []string{"", "a", "b c", "twelve bytes"}[m.r.Intn(4)])
	}
	for i := range p.Codes {
		if i > 0 {
			p.Codes[i].Params = m.r.Intn(5)
		}
		p.Codes[i].Vars = p.Codes[i].Params + m.r.Intn(9-p.Codes[i].Params)
	}
	for i := range p.Codes {
		p.Codes[i].Instrs = m.instrs(p, p.Codes[i])
	}
	return p
}

// instrs are such that no one that is gone through in turn needs more than lie there; ways lead to where as many lie, mostly.
func (m *maker) instrs(p api.Program, c api.Code) (l []api.Instr) {
	var lies []int
	lie := 0
	for count := 1 + m.r.Intn(30); len(l) < count; {
		in := m.instr(p, c)
		needs, gives := slowTaken(in)
		if needs > lie || in.Op == api.OpReturn && lie != 1 {
			continue
		}
		l, lies = append(l, in), append(lies, lie)
		lie += gives - needs
		if in.Op == api.OpReturn {
			lie = m.r.Intn(3)
		}
	}
	for ; lie != 1; lies = append(lies, lie) {
		in := api.Instr{Op: api.OpPop}
		if lie == 0 {
			in.Op = api.OpHere
			lie = 2
		}
		l = append(l, in)
		lie--
	}
	l, lies = append(l, api.Instr{Op: api.OpReturn}), append(lies, lie)
	for i, in := range l {
		if in.Op == api.OpJump || in.Op == api.OpElse {
			l[i].A = m.target(lies, lies[i]-(in.Op-api.OpJump))
		}
	}
	return l
}

func (m *maker) target(lies []int, lie int) int {
	for range 100 {
		if to := m.r.Intn(len(lies)); lies[to] == lie || m.r.Intn(400) == 0 {
			return to
		}
	}
	return 0
}

func (m *maker) instr(p api.Program, c api.Code) api.Instr {
	in := api.Instr{Op: 1 + m.r.Intn(19)}
	if m.tall && m.r.Intn(3) > 0 {
		return api.Instr{Op: api.OpHere}
	}
	if m.r.Intn(4) == 0 {
		in.Op = []int{api.OpCall, api.OpGo, api.OpInt}[m.r.Intn(3)]
	}
	switch in.Op {
	case api.OpInt:
		in.A = m.r.Intn(2<<30+1) - 1<<30
	case api.OpText:
		in.A = m.r.Intn(len(p.Words))
	case api.OpLoad, api.OpStore:
		if c.Vars == 0 {
			return api.Instr{Op: api.OpHere}
		}
		in.A = m.r.Intn(c.Vars)
	case api.OpTwo:
		in.A = 1 + m.r.Intn(5)
	case api.OpCall:
		in.A = m.r.Intn(len(p.Codes))
		in.B = p.Codes[in.A].Params
	}
	return in
}

func (m *maker) value(cells int) api.Value {
	switch n := m.r.Intn(3); {
	case n == 0:
		return txt([]string{"", "a", "b c"}[m.r.Intn(3)])
	case n == 1 && cells > 0:
		return ref(m.r.Intn(cells))
	}
	return num(m.r.Intn(9) - 4)
}

func (m *maker) values(count, cells int) (l []api.Value) {
	for range count {
		l = append(l, m.value(cells))
	}
	return append(l, api.Value{Kind: 3})[:len(l)]
}

// agent has frames that wait for each other, if p has calls for it; the last one is anywhere, or behind a go.
func (m *maker) agent(p api.Program) api.Agent {
	a := api.Agent{ID: m.r.Intn(99), Trip: m.r.Intn(9), Program: p, Permit: api.Permit{Fuel: m.r.Intn(2001), Cells: m.r.Intn(30), Hops: m.r.Intn(13)}}
	cells := m.r.Intn(30)
	for range cells {
		a.Heap = append(a.Heap, api.Cell{Left: m.value(cells), Right: m.value(cells)})
	}
	fn := m.r.Intn(len(p.Codes))
	for count := m.r.Intn(12); ; count-- {
		heights, _ := slowHeights(p.Codes[fn])
		op := api.OpCall
		if count <= 0 {
			op = []int{api.OpGo, 0}[m.r.Intn(2)]
		}
		at := m.behind(p.Codes[fn], heights, op)
		if at < 0 {
			count, op, at = 0, 0, m.behind(p.Codes[fn], heights, 0)
		}
		lie := heights[at]
		if op != 0 {
			lie--
		}
		a.Frames = append(a.Frames, api.Frame{Fn: fn, At: at, Vars: m.values(p.Codes[fn].Vars, cells), Stack: m.values(lie, cells)})
		if op != api.OpCall {
			return a
		}
		fn = p.Codes[fn].Instrs[at-1].A
	}
}

// behind is somewhere where something leads, behind such an op if it is one; -1, if there is none.
func (m *maker) behind(c api.Code, heights []int, op int) int {
	var l []int
	for i, lie := range heights {
		if op == 0 && lie >= 0 || op != 0 && i > 0 && heights[i-1] >= 0 && c.Instrs[i-1].Op == op {
			l = append(l, i)
		}
	}
	if l == nil {
		return -1
	}
	return l[m.r.Intn(len(l))]
}

// odd is a number that is seldom right.
func (m *maker) odd(n int) int {
	return []int{-1, 0, 1, 2, 5, 6, 9, 13, 61, 2001, 1<<30 + 1, n + 1, n - 1}[m.r.Intn(13)]
}

// spoil changes something of p, which shares nothing with others.
func (m *maker) spoil(p *api.Program) {
	c := &p.Codes[m.r.Intn(len(p.Codes))]
	in := &c.Instrs[m.r.Intn(len(c.Instrs))]
	switch m.r.Intn(12) {
	case 0:
		p.Words = append(p.Words, []string{"'", "a", "thirteen byte"}[m.r.Intn(3)])
	case 1:
		p.Codes = append(p.Codes, p.Codes[0])
	case 2:
		c.Params = m.odd(c.Params)
	case 3:
		c.Vars = m.odd(c.Vars)
	case 4:
		c.Instrs = slices.Repeat(c.Instrs, m.r.Intn(9))
		if len(c.Instrs) == 0 {
			c.Instrs = instrs(times(17, "here", ""))
		}
	case 5, 6:
		in.A = m.odd(in.A)
	case 7:
		in.B = m.odd(in.B)
	case 8:
		in.Op = m.odd(in.Op)
	case 9, 10:
		c.Instrs = c.Instrs[:1+m.r.Intn(len(c.Instrs))]
	case 11:
		*in = m.instr(*p, *c)
	}
}

func (m *maker) spoilAgent(a *api.Agent) {
	f := &a.Frames[m.r.Intn(len(a.Frames))]
	switch m.r.Intn(14) {
	case 0:
		a.ID = m.odd(a.ID)
	case 1:
		a.Trip = m.odd(a.Trip)
	case 2:
		a.Permit.Fuel, a.Permit.Hops = m.odd(a.Permit.Fuel), m.odd(a.Permit.Hops)
	case 3:
		a.Permit.Cells = m.odd(a.Permit.Cells)
	case 4:
		a.Frames = slices.Repeat(a.Frames, 1+m.r.Intn(3))
	case 5:
		a.Heap = slices.Repeat(a.Heap, m.r.Intn(4))
	case 6:
		f.Fn = m.odd(f.Fn)
	case 7, 8:
		f.At = m.odd(f.At)
	case 9:
		f.Vars = m.values(m.r.Intn(9), len(a.Heap))
	case 10:
		f.Stack = m.values(m.r.Intn(4), len(a.Heap))
	case 11, 12:
		for _, l := range [][]api.Value{f.Vars, f.Stack} {
			for i := range l {
				l[i] = api.Value{Kind: m.r.Intn(4), N: m.odd(0), Text: []string{"", "", "a"}[m.r.Intn(3)]}
			}
		}
	case 13:
		if len(a.Heap) > 0 {
			a.Heap[m.r.Intn(len(a.Heap))].Right = api.Value{Kind: m.r.Intn(4), N: m.odd(0)}
		}
	}
}

// often fails if one of these came seldom: then little was held against each other.
func often(t *testing.T, times map[api.Errno]int, most int, l ...api.Errno) {
	t.Helper()
	for _, err := range append(l, api.OK) {
		if times[err] < most {
			t.Errorf("%d came %d times alone", err, times[err])
		}
	}
}

func TestF1Slow(t *testing.T) {
	m := &maker{r: rand.New(rand.NewSource(6))}
	times := map[api.Errno]int{}
	for range 40000 {
		p := m.program()
		c := p.Codes[0]
		if m.r.Intn(2) == 0 {
			c.Instrs[m.r.Intn(len(c.Instrs))] = m.instr(p, c)
		}
		if m.r.Intn(4) == 0 {
			c.Instrs = c.Instrs[:m.r.Intn(len(c.Instrs))+1]
		}
		for i, in := range c.Instrs {
			if in.Op == api.OpJump || in.Op == api.OpElse {
				c.Instrs[i].A = min(in.A, len(c.Instrs)-1)
			}
		}
		before := tell(c)
		want, wantErr := slowHeights(c)
		times[wantErr]++
		got, err := Heights(c)
		if err != wantErr || !slices.Equal(got, want) {
			t.Fatalf("%s: %v, %d comes, not %v, %d", before, got, err, want, wantErr)
		}
		if tell(c) != before {
			t.Fatalf("%s has become %s", before, tell(c))
		}
		if err == api.OK {
			wander(t, m.r, c, got)
		}
	}
	often(t, times, 500, api.ErrEnd, api.ErrFit, api.ErrMuch)
}

// wander goes through code that is right, one way after another, as an agent would: it never gets stuck, and as many lie there as Heights has it.
func wander(t *testing.T, r *rand.Rand, c api.Code, heights []int) {
	t.Helper()
	at, lie := 0, 0
	for range 50 {
		in := c.Instrs[at]
		if heights[at] != lie {
			t.Fatalf("%s: %d lie at %d, not %d", tell(c), lie, at, heights[at])
		}
		needs, gives := slowTaken(in)
		lie += gives - needs
		if lie < 0 || lie > 16 || needs > heights[at] {
			t.Fatalf("%s: stuck at %d", tell(c), at)
		}
		at++
		if in.Op == api.OpJump || in.Op == api.OpElse && r.Intn(2) == 0 {
			at = in.A
		}
		if in.Op == api.OpReturn {
			return
		}
	}
}

func TestF2Slow(t *testing.T) {
	m := &maker{r: rand.New(rand.NewSource(7))}
	times := map[api.Errno]int{}
	for range 40000 {
		p := m.program()
		for range m.r.Intn(3) {
			m.spoil(&p)
		}
		before := tell(p)
		want := slowProgram(p)
		times[want]++
		if got := Program(p); got != want {
			t.Fatalf("%s: %d comes, not %d", before, got, want)
		}
		if tell(p) != before {
			t.Fatalf("%s has become %s", before, tell(p))
		}
	}
	often(t, times, 500, api.ErrKind, api.ErrRange, api.ErrMuch, api.ErrMany, api.ErrName, api.ErrEnd, api.ErrFit)
}

func TestF3Slow(t *testing.T) {
	m := &maker{r: rand.New(rand.NewSource(8))}
	away, here := map[api.Errno]int{}, map[api.Errno]int{}
	for range 30000 {
		p := m.program()
		if slowProgram(p) != api.OK {
			continue
		}
		a := m.agent(p)
		for range m.r.Intn(3) {
			m.spoilAgent(&a)
		}
		if m.r.Intn(50) == 0 {
			m.spoil(&a.Program)
		}
		before := tell(a)
		for _, is := range []bool{true, false} {
			want := slowAgent(a, is)
			if is {
				away[want]++
			} else {
				here[want]++
			}
			if got := Agent(a, is); got != want {
				t.Fatalf("%s, %v: %d comes, not %d", before, is, got, want)
			}
		}
		if tell(a) != before {
			t.Fatalf("%s has become %s", before, tell(a))
		}
	}
	often(t, away, 100, api.ErrKind, api.ErrRange, api.ErrMuch, api.ErrMany, api.ErrNone, api.ErrForm, api.ErrFit)
	often(t, here, 100, api.ErrKind, api.ErrRange, api.ErrMuch, api.ErrMany, api.ErrNone, api.ErrForm, api.ErrFit)
}
