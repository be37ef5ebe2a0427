package vm

import (
	"fmt"
	"math/rand"
	"slices"
	"strings"
	"testing"

	"wanderstaff/api"
	"wanderstaff/cell"
	"wanderstaff/verify"
)

// slow is a second reading of G2, without memory that changes: each step makes all anew.
type slow struct {
	a    api.Agent
	spot api.Spot
}

// slowRun looks at the bounds ahead of each step, as G2 names them.
func slowRun(a api.Agent, spot api.Spot, most int) (api.Agent, api.Event) {
	if most <= 0 {
		return a, api.Event{Kind: api.EvRest}
	}
	if a.Permit.Fuel == 0 {
		return a, api.Event{Kind: api.EvDead, Err: api.ErrFuel}
	}
	b, e := slow{a, spot}.step()
	if e.Kind != 0 {
		return b, e
	}
	return slowRun(b, spot, most-1)
}

// needed is what each op needs, from OpInt on; of OpCall it is B.
const needed = "0001221122101101.11"

func (s slow) step() (api.Agent, api.Event) {
	a := s.a
	a.Permit.Fuel--
	count := len(a.Frames)
	f := a.Frames[count-1]
	in := a.Program.Codes[f.Fn].Instrs[f.At]
	f.At++
	needs := int(needed[in.Op-1] - '0')
	if in.Op == api.OpCall {
		needs = in.B
		if count == 12 {
			a.Frames = slices.Concat(a.Frames[:count-1], []api.Frame{f})
			return a, api.Event{Kind: api.EvDead, Err: api.ErrDeep}
		}
	}
	lie := len(f.Stack) - needs
	took := f.Stack[lie:]
	f.Stack = slices.Clone(f.Stack[:lie])
	below := slices.Clone(a.Frames[:count-1])
	with := func(l ...api.Value) []api.Frame {
		f.Stack = slices.Concat(f.Stack, l)
		return slices.Concat(below, []api.Frame{f})
	}
	switch in.Op {
	case api.OpStore:
		f.Vars = slices.Concat(f.Vars[:in.A], took, f.Vars[in.A+1:])
	case api.OpJump:
		f.At = in.A
	case api.OpElse:
		if took[0] == num(0) {
			f.At = in.A
		}
	case api.OpCall:
		c := a.Program.Codes[in.A]
		a.Frames = append(with(), api.Frame{Fn: in.A, Vars: slices.Concat(took, make([]api.Value, c.Vars-c.Params))})
		return a, api.Event{}
	case api.OpReturn:
		if count == 1 {
			a.Frames = nil
			return a, api.Event{Kind: api.EvDone, Text: cell.Show(a.Heap, took[0], 4)}
		}
		f = below[count-2]
		below = below[:count-2]
		a.Frames = with(took[0])
		return a, api.Event{}
	default:
		var gives []api.Value
		var e api.Event
		a, gives, e = s.gives(a, in, f, took)
		a.Frames = with(gives...)
		return a, e
	}
	a.Frames = with()
	return a, api.Event{}
}

// gives is what an instruction that changes no frame makes of what it took.
func (s slow) gives(a api.Agent, in api.Instr, f api.Frame, took []api.Value) (api.Agent, []api.Value, api.Event) {
	kind := func(i int) int { return took[i].Kind }
	none := []api.Value{}
	one := func(v api.Value) (api.Agent, []api.Value, api.Event) { return a, []api.Value{v}, api.Event{} }
	dead := func(err api.Errno) (api.Agent, []api.Value, api.Event) {
		return a, none, api.Event{Kind: api.EvDead, Err: err}
	}
	switch op := in.Op; {
	case op == api.OpInt:
		return one(num(in.A))
	case op == api.OpText:
		return one(txt(a.Program.Words[in.A]))
	case op == api.OpLoad:
		return one(f.Vars[in.A])
	case op == api.OpHere:
		return one(txt(s.spot.Name[:min(60, len(s.spot.Name))]))
	case op == api.OpTwo:
		v, err := cell.Two(in.A, took[0], took[1])
		if err != 0 {
			return dead(err)
		}
		return one(v)
	case op == api.OpCell && a.Permit.Cells == 0:
		return dead(api.ErrFull)
	case op == api.OpCell:
		a.Permit.Cells--
		a.Heap = slices.Concat(a.Heap, []api.Cell{{Left: took[0], Right: took[1]}})
		return one(ref(len(a.Heap) - 1))
	case op >= api.OpLeft && op <= api.OpPutR && kind(0) != api.ValCell:
		return dead(api.ErrType)
	case op == api.OpLeft:
		return one(a.Heap[took[0].N].Left)
	case op == api.OpRight:
		return one(a.Heap[took[0].N].Right)
	case op == api.OpPutL:
		a.Heap = slices.Clone(a.Heap)
		a.Heap[took[0].N].Left = took[1]
	case op == api.OpPutR:
		a.Heap = slices.Clone(a.Heap)
		a.Heap[took[0].N].Right = took[1]
	case (op == api.OpAsk || op == api.OpGo) && kind(0) != api.ValText:
		return dead(api.ErrType)
	case op == api.OpAsk:
		if i := slices.IndexFunc(s.spot.Facts, func(x api.Fact) bool { return x.Key == took[0].Text }); i >= 0 {
			return one(s.spot.Facts[i].Value)
		}
		return one(num(0))
	case op == api.OpGo && a.Permit.Hops == 0:
		return one(num(0))
	case op == api.OpGo:
		a.Permit.Hops--
		return a, none, api.Event{Kind: api.EvGo, Text: took[0].Text}
	case op == api.OpSay:
		return a, none, api.Event{Kind: api.EvSay, Text: cell.Show(a.Heap, took[0], 4)}
	}
	return a, none, api.Event{}
}

// writer writes programs, in which numbers are mostly in n, texts in s, and cells in c.
type writer struct{ r *rand.Rand }

func (w *writer) pick(l ...string) string { return l[w.r.Intn(len(l))] }

// fill puts an expression in the place of each N, S, C (a number, a text, a cell) and V (any of them).
func (w *writer) fill(s string, deep int) string {
	var out strings.Builder
	for _, b := range []byte(s) {
		kind := strings.IndexByte("NSCV", b)
		if kind < 0 {
			out.WriteByte(b)
			continue
		}
		if kind == 3 || w.r.Intn(40) == 0 {
			kind = w.r.Intn(3)
		}
		out.WriteString(w.expr(kind, deep-1))
	}
	return out.String()
}

func (w *writer) expr(kind, deep int) string {
	if deep <= 0 {
		return [3]string{w.pick("0", "1", "n", "-70", "1073741824"), w.pick("s", "''", "'b'", "'twelve bytes'", "(here)"), w.pick("c", "(cell n s)")}[kind]
	}
	return w.fill([3]string{
		w.pick("n", "(+ N N)", "(- N N)", "(* N N)", "(< N N)", "(< S S)", "(= V V)", "(ask S)", "(go S)", "(f N S)", "(left C)"),
		w.pick("s", "(+ S S)", "(here)", "(ask 'b')", "(g C)", "(right C)"),
		w.pick("c", "(cell N S)", "(cell V V)", "(h)", "(cell C C)"),
	}[kind], deep)
}

func (w *writer) block(deep int) string {
	out := ""
	for range w.r.Intn(4) {
		out += w.stmt(deep-1) + " "
	}
	return "(" + out + ")"
}

func (w *writer) stmt(deep int) string {
	switch n := w.r.Intn(12); {
	case n == 0 && deep > 0:
		return w.fill("(if N ", 2) + w.block(deep) + " " + w.block(deep) + ")"
	case n == 1 && deep > 0:
		body := w.block(deep)
		return w.fill("(while (< n N) ", 2) + body[1:len(body)-1] + " (set n (+ n 1)))"
	case n == 2:
		return w.fill("(return V)", 3)
	}
	return w.fill(w.pick("(set n N)", "(set s S)", "(set c C)", "(putl c N)", "(putr c S)", "(putl C V)", "(putr c c)", "(say V)", "(do (go S))", "(do V)"), 4)
}

func (w *writer) text() string {
	body := func() (out string) {
		for range 2 + w.r.Intn(5) {
			out += " " + w.stmt(3)
		}
		return out
	}
	return "(main () (let n 0) (let s 'a') (let c (cell 1 2))" + body() + ")" +
		"(f (n s) (let c 7)" + w.pick("", " (set c (cell n s))") + body() + w.fill("(return N)", 3) + ")" +
		"(g (c) (let n 3) (let s '')" + body() + w.fill("(return S)", 3) + ")" +
		"(h () (let n 0) (let s 'h') (let c 1)" + body() + w.fill("(return C)", 3) + ")"
}

// program is right; some are such as no text makes.
func (w *writer) program() api.Program {
	for {
		p, ok := made(w.text())
		if !ok {
			continue
		}
		for range w.r.Intn(4) {
			l := p.Codes[w.r.Intn(len(p.Codes))].Instrs
			at := w.r.Intn(len(l))
			was := l[at]
			l[at] = api.Instr{Op: 1 + w.r.Intn(19), A: w.r.Intn(6), B: w.r.Intn(2)}
			if verify.Program(p) != api.OK {
				l[at] = was
			}
		}
		return p
	}
}

func (w *writer) value(cells int) api.Value {
	if cells > 0 && w.r.Intn(3) == 0 {
		return ref(w.r.Intn(cells))
	}
	return []api.Value{num(0), num(1), num(-9), num(1 << 30), txt(""), txt("a"), txt("b"), txt(strings.Repeat("long", 15))}[w.r.Intn(8)]
}

// upset has other values, cells and permits in a, which stays right.
func (w *writer) upset(a api.Agent) api.Agent {
	a = Own(a)
	for range w.r.Intn(5) {
		a.Heap = append(a.Heap, api.Cell{})
	}
	lists := [][]api.Value{}
	for _, f := range a.Frames {
		lists = append(lists, f.Vars, f.Stack)
	}
	for _, l := range lists {
		for i := range l {
			if w.r.Intn(6) == 0 {
				l[i] = w.value(len(a.Heap))
			}
		}
	}
	for i := range a.Heap {
		if w.r.Intn(3) == 0 {
			a.Heap[i] = pair(w.value(len(a.Heap)), w.value(len(a.Heap)))
		}
	}
	a.Permit = api.Permit{Fuel: w.r.Intn(300), Cells: w.r.Intn(60 - min(59, len(a.Heap))), Hops: w.r.Intn(4)}
	return a
}

func (w *writer) spot() api.Spot {
	s := api.Spot{Name: w.pick("a", "b", "", strings.Repeat("longer", 12)), Fuel: w.r.Intn(3), Cells: w.r.Intn(3)}
	for range w.r.Intn(5) {
		s.Facts = append(s.Facts, api.Fact{Key: w.pick("a", "b", "", s.Name), Value: w.value(0)})
	}
	return s
}

// journey hands look agents that are right, each at a place, with how many steps it goes on at most, as far as they come.
func journey(t *testing.T, seed int64, count int, look func(w *writer, a api.Agent, spot api.Spot, most int)) {
	t.Helper()
	w := &writer{rand.New(rand.NewSource(seed))}
	for range count {
		a := New(w.r.Intn(99), w.program(), api.Permit{Fuel: w.r.Intn(2001), Cells: w.r.Intn(61), Hops: w.r.Intn(13)})
		for range 30 {
			if w.r.Intn(5) == 0 {
				a = w.upset(a)
			}
			if err := verify.Agent(a, false); err != api.OK {
				t.Fatalf("%d is wrong with %s", err, whole(a))
			}
			spot, most := w.spot(), []int{-1, 0, 1, 2, 9, 40, 3000}[w.r.Intn(7)]
			look(w, a, spot, most)
			b, e := slowRun(a, spot, most)
			if e.Kind == api.EvGo {
				b = Answer(b, w.r.Intn(2))
			}
			if e.Kind == api.EvDone || e.Kind == api.EvDead {
				break
			}
			a = b
		}
	}
}

func TestG2Slow(t *testing.T) {
	times := map[string]int{}
	ops := [20]int{}
	journey(t, 1, 4000, func(w *writer, a api.Agent, spot api.Spot, most int) {
		before, facts := Own(a), slices.Clone(spot.Facts)
		wantAgent, want := slowRun(a, spot, most)
		got, e := Run(a, spot, most)
		if e != want || !alike(got, wantAgent) {
			t.Fatalf("%s, %d steps at %+v: %s, %s comes, not %s, %s", whole(before), most, spot, told(e), whole(got), told(want), whole(wantAgent))
		}
		if !alike(a, before) || !slices.Equal(spot.Facts, facts) {
			t.Fatalf("%s, %d steps: it has become %s, at %+v", whole(before), most, whole(a), spot)
		}
		times[fmt.Sprint(e.Kind, e.Err)]++
		f := a.Frames[len(a.Frames)-1]
		ops[a.Program.Codes[f.Fn].Instrs[f.At].Op]++
	})
	for _, s := range []string{"1 0", "2 0", "3 0", "4 0", fmt.Sprint(5, api.ErrFuel), fmt.Sprint(5, api.ErrType), fmt.Sprint(5, api.ErrFull), fmt.Sprint(5, api.ErrDeep)} {
		if times[s] < 50 {
			t.Errorf("event %s came %d times alone", s, times[s])
		}
	}
	for op := api.OpInt; op <= api.OpPop; op++ {
		if ops[op] < 20 {
			t.Errorf("op %d came first %d times alone", op, ops[op])
		}
	}
}

// What is right never gets stuck: wherever it comes to, it is right, as one that is away at EvGo.
func TestG2StaysRight(t *testing.T) {
	journey(t, 2, 1500, func(w *writer, a api.Agent, spot api.Spot, most int) {
		b, e := Run(a, spot, most)
		if e.Kind > api.EvGo {
			return
		}
		if err := verify.Agent(b, e.Kind == api.EvGo); err != api.OK {
			t.Fatalf("%s, %d steps: %d is wrong with %s", whole(a), most, err, whole(b))
		}
		if e.Kind == api.EvGo && verify.Agent(Answer(b, 1), false) != api.OK {
			t.Fatalf("%s is not right with an answer", whole(b))
		}
	})
}

// Step by step as at once.
func TestG2StepByStep(t *testing.T) {
	journey(t, 3, 1000, func(w *writer, a api.Agent, spot api.Spot, most int) {
		want, wantEvent := Run(a, spot, most)
		b, e := Run(a, spot, 0)
		for range most {
			if b, e = Run(b, spot, 1); e.Kind != api.EvRest {
				break
			}
		}
		if e != wantEvent || !alike(b, want) {
			t.Fatalf("%s: %s, %s comes step by step, not %s, %s", whole(a), told(e), whole(b), told(wantEvent), whole(want))
		}
	})
}

// Packed, it goes on the same; and nothing is free: what is gone gives no cells back.
func TestG1PackedGoesOn(t *testing.T) {
	fewer := 0
	journey(t, 4, 1500, func(w *writer, a api.Agent, spot api.Spot, most int) {
		p := Pack(a)
		if err := verify.Agent(p, false); err != api.OK || p.Permit != a.Permit || !alike(Pack(p), p) {
			t.Fatalf("%s packed is %s: %d", whole(a), whole(p), err)
		}
		if len(p.Heap) < len(a.Heap) {
			fewer++
		}
		want, wantEvent := Run(a, spot, most)
		got, e := Run(p, spot, most)
		if e != wantEvent || !alike(Pack(got), Pack(want)) {
			t.Fatalf("%s: %s, %s comes of it packed, not %s, %s", whole(a), told(e), whole(got), told(wantEvent), whole(want))
		}
	})
	if fewer < 100 {
		t.Errorf("%d had cells that are gone", fewer)
	}
}
