package verify

import (
	"math"
	"math/rand"
	"slices"
	"testing"

	"wanderstaff/api"
)

// Whatever is handed in, nothing panics, and every call ends: of numbers that may not be, too.
func TestZ1Anything(t *testing.T) {
	r := rand.New(rand.NewSource(9))
	odd := []int{math.MinInt, math.MinInt + 1, -2, -1, 0, 1, 2, 3, 7, 15, 16, 17, 18, 19, 20, math.MaxInt - 1, math.MaxInt}
	n := func() int { return odd[r.Intn(len(odd))] }
	for range 20000 {
		var p api.Program
		for range r.Intn(3) {
			c := api.Code{Params: n(), Vars: n()}
			for range r.Intn(8) {
				c.Instrs = append(c.Instrs, api.Instr{Op: n(), A: n(), B: n()})
			}
			heights, err := Heights(c)
			if err != api.OK && heights != nil || err == api.OK && len(heights) != len(c.Instrs) {
				t.Fatalf("%s: %v beside %d", tell(c), heights, err)
			}
			p.Codes = append(p.Codes, c)
		}
		Program(p)
		p = api.Program{Codes: []api.Code{coded(0, 0, "call 0, return")}}
		a := api.Agent{Program: p}
		for range r.Intn(3) {
			a.Frames = append(a.Frames, api.Frame{Fn: n(), At: n(), Vars: make([]api.Value, r.Intn(2)), Stack: []api.Value{{Kind: n(), N: n()}}})
		}
		Agent(a, true)
		Agent(a, false)
		a.Program, a.Permit = api.Program{Codes: make([]api.Code, r.Intn(9))}, api.Permit{Fuel: n(), Cells: n(), Hops: n()}
		Agent(a, true)
	}
}

// A call of fewer arguments than none, which may not be, brings no height below 0, where -1 would mean something else.
func TestZ1NoArgumentsBelowNone(t *testing.T) {
	for _, b := range []int{-1, -2, math.MinInt, math.MinInt + 1} {
		c := api.Code{Instrs: []api.Instr{{Op: api.OpCall, B: b}, {Op: api.OpReturn}}}
		if heights, err := Heights(c); err != api.OK || !slices.Equal(heights, []int{0, 1}) {
			t.Errorf("B is %d: %v, %d comes", b, heights, err)
		}
	}
}

func TestZ2NewMemory(t *testing.T) {
	c := coded(0, 0, "jump 2, pop, int 0, return")
	want := []int{0, -1, 0, 1}
	one, _ := Heights(c)
	clear(one[:cap(one)])
	two, _ := Heights(c)
	clear(c.Instrs)
	if !slices.Equal(two, want) {
		t.Errorf("%v comes, not %v", two, want)
	}
}

// What stands in the spare room behind lists is not looked at, nor changed.
func TestZ2SpareRoom(t *testing.T) {
	a := gone(t)
	a.Program.Codes = behind(a.Program.Codes, api.Code{Params: 9})
	for i, c := range a.Program.Codes {
		a.Program.Codes[i].Instrs = behind(c.Instrs, api.Instr{Op: 99})
	}
	a.Program.Words = behind(a.Program.Words, "'")
	a.Frames = behind(a.Frames, api.Frame{Fn: 99})
	for i, f := range a.Frames {
		a.Frames[i].Vars, a.Frames[i].Stack = behind(f.Vars, api.Value{Kind: 99}), behind(f.Stack, api.Value{Kind: 99})
	}
	a.Heap = behind(a.Heap, api.Cell{Left: api.Value{Kind: 99}})
	whole := func() string {
		s := tell(a.Program.Codes[:3]) + tell(a.Program.Words[:2]) + tell(a.Frames[:3]) + tell(a.Heap[:3])
		for _, c := range a.Program.Codes {
			s += tell(c.Instrs[:len(c.Instrs)+1])
		}
		for _, f := range a.Frames {
			s += tell(f.Vars[:len(f.Vars)+1]) + tell(f.Stack[:len(f.Stack)+1])
		}
		return s
	}
	before := whole()
	heights, err := Heights(a.Program.Codes[0])
	if err != api.OK || !slices.Equal(heights, []int{0, 1, 2, 2, 1, 0, 1}) || Agent(a, true) != api.OK || Agent(a, false) != api.ErrFit || Program(a.Program) != api.OK {
		t.Error("the spare room is looked at")
	}
	if whole() != before {
		t.Errorf("%s has become %s", before, whole())
	}
}

// behind is l, with x in its spare room.
func behind[T any](l []T, x T) []T { return append(slices.Clone(l), x)[:len(l)] }

func TestZ3NoEntries(t *testing.T) {
	for _, l := range [][]api.Value{nil, {}} {
		a := gone(t)
		a.Program.Codes[1] = coded(1, 1, "text 0, go, return")
		a.Frames[0].Vars, a.Frames[1].At, a.Frames[1].Stack = l, 2, l
		if got := Agent(a, true); got != api.OK {
			t.Errorf("%d comes", got)
		}
	}
	for _, p := range []api.Program{{Codes: []api.Code{}, Words: []string{}}, {}} {
		programIs(t, "no codes", p, api.ErrMany)
	}
	for _, l := range [][]api.Instr{nil, {}} {
		if h, err := Heights(api.Code{Instrs: l}); h != nil || err != api.ErrEnd {
			t.Errorf("%v, %d comes", h, err)
		}
		programIs(t, "no instructions", api.Program{Codes: []api.Code{{Instrs: l}}, Words: []string{}}, api.ErrRange)
	}
}

// Long code is looked at without end of memory or time: each instruction once.
func TestLimitsLongCode(t *testing.T) {
	var l []api.Instr
	for i := range 1 << 18 {
		l = append(l, api.Instr{Op: api.OpHere}, api.Instr{Op: api.OpElse, A: max(0, 2*i-2)})
	}
	l = append(l, instrs("int 0, return")...)
	heights, err := Heights(api.Code{Instrs: l})
	if err != api.OK || len(heights) != len(l) || heights[len(l)-1] != 1 {
		t.Errorf("%d comes", err)
	}
}
