package vm

import (
	"fmt"
	"slices"
	"strings"
	"testing"

	"wanderstaff/api"
)

// spoil writes over all that a holds, the spare room behind its lists too.
func spoil(a api.Agent) {
	for _, c := range a.Program.Codes[:cap(a.Program.Codes)] {
		fill(c.Instrs, api.Instr{Op: 77, A: 77, B: 77})
	}
	for _, f := range a.Frames[:cap(a.Frames)] {
		fill(f.Vars, api.Value{Kind: 77})
		fill(f.Stack, api.Value{Kind: 77})
	}
	fill(a.Program.Codes, api.Code{Params: 77})
	fill(a.Program.Words, "spoilt")
	fill(a.Frames, api.Frame{Fn: 77})
	fill(a.Heap, api.Cell{Left: api.Value{Kind: 77}})
}

func fill[T any](l []T, x T) {
	l = l[:cap(l)]
	for i := range l {
		l[i] = x
	}
}

// calls is what each call makes of an agent.
func calls() map[string]func(a api.Agent) api.Agent {
	run := func(most int) func(a api.Agent) api.Agent {
		return func(a api.Agent) api.Agent {
			b, _ := Run(Answer(a, 1), place(), most)
			return b
		}
	}
	return map[string]func(a api.Agent) api.Agent{
		"Own":           Own,
		"New":           func(a api.Agent) api.Agent { return New(a.ID, a.Program, a.Permit) },
		"Answer":        func(a api.Agent) api.Agent { return Answer(a, 1) },
		"Pack":          Pack,
		"Run, no step":  run(0),
		"Run":           run(1),
		"Run, a return": run(3),
		"Run to an end": run(99),
		"Run alone": func(a api.Agent) api.Agent {
			a.Frames = slices.Clone(a.Frames)
			a.Frames[1].Stack = append(slices.Clone(a.Frames[1].Stack), num(1))
			b, _ := Run(a, place(), 1)
			return b
		},
	}
}

// calling is about to call, with arguments, one that lies there, and cells.
func calling(t *testing.T) api.Agent {
	t.Helper()
	p := mustMake(t, "(main () (let x (cell 1 'a')) (putl x x) (say (+ 5 (f 2 x))) (do (go 'b')))(f (a b) (let c (cell a b)) (putr c c) (return a))")
	a, _ := Run(New(3, p, api.Permit{Fuel: 90, Cells: 9, Hops: 2}), place(), 10)
	return a
}

// What is answered is the caller's: neither does the argument hang on it, nor it on the argument.
func TestZ2NewMemory(t *testing.T) {
	for name, call := range calls() {
		a := gone(t)
		before := whole(a)
		want := whole(call(gone(t)))
		spoil(call(a))
		same(t, name+": the argument", whole(a), before)
		b := call(a)
		spoil(a)
		same(t, name+": the answer", whole(b), want)
	}
	for most := range 30 {
		a := calling(t)
		before := whole(a)
		b, _ := Run(a, place(), most)
		want := whole(b)
		spoil(a)
		same(t, fmt.Sprintf("%d steps: the answer", most), whole(b), want)
		a = calling(t)
		b, _ = Run(a, place(), most)
		spoil(b)
		same(t, fmt.Sprintf("%d steps: the argument", most), whole(a), before)
	}
}

// No two lists of an answer share any room: one that is written full, and over it, changes no other one.
func TestZ2NoListsShare(t *testing.T) {
	lists := func(a *api.Agent) (l []*[]api.Value) {
		for i := range a.Frames {
			l = append(l, &a.Frames[i].Vars, &a.Frames[i].Stack)
		}
		return l
	}
	agents := []api.Agent{Own(gone(t)), Pack(gone(t)), Answer(gone(t), 1), New(0, gone(t).Program, api.Permit{})}
	for most := range 12 {
		b, _ := Run(calling(t), place(), most)
		// all variables of what this one calls are arguments: they might as well lie where they lay
		c, _ := Run(New(0, gone(t).Program, api.Permit{Fuel: 99}), place(), most)
		agents = append(agents, b, c)
	}
	for _, a := range agents {
		all := lists(&a)
		for i, l := range all {
			others := whole(a)
			old := slices.Clone(*l)
			fill(*l, txt("mine"))
			copy(*l, old)
			same(t, fmt.Sprintf("list %d", i), whole(a), others)
		}
	}
}

// The spare room behind lists is neither looked at nor changed.
func TestZ2SpareRoom(t *testing.T) {
	odd := api.Value{Kind: 9, N: 9, Text: "spare"}
	for name, call := range calls() {
		want := whole(call(gone(t)))
		a := gone(t)
		for i, c := range a.Program.Codes {
			a.Program.Codes[i].Instrs = roomy(c.Instrs, api.Instr{Op: 9, A: 9, B: 9})
		}
		for i, f := range a.Frames {
			a.Frames[i].Vars, a.Frames[i].Stack = roomy(f.Vars, odd), roomy(f.Stack, odd)
		}
		a.Program.Codes, a.Program.Words = roomy(a.Program.Codes, api.Code{Vars: 9}), roomy(a.Program.Words, "spare")
		a.Frames, a.Heap = roomy(a.Frames, api.Frame{Fn: 9}), roomy(a.Heap, pair(odd, odd))
		before := spare(a)
		same(t, name, whole(call(a)), want)
		same(t, name+": the argument", spare(a), before)
	}
}

// roomy is l, with x three times in its spare room.
func roomy[T any](l []T, x T) []T { return slices.Concat(l, []T{x, x, x})[:len(l)] }

// spare tells all that is in a, its spare room too.
func spare(a api.Agent) string {
	var out strings.Builder
	for _, c := range a.Program.Codes {
		fmt.Fprint(&out, c.Instrs[:len(c.Instrs)+3])
	}
	for _, f := range a.Frames {
		fmt.Fprint(&out, f.Vars[:len(f.Vars)+3], f.Stack[:len(f.Stack)+3])
	}
	fmt.Fprint(&out, a.Program.Codes[:5], a.Program.Words[:4], a.Frames[:5], a.Heap[:6])
	return out.String()
}

// The facts of a place are only read, and nothing of them is kept.
func TestZ2Facts(t *testing.T) {
	p := mustMake(t, "(main () (let x (ask 'b')) (do (go 'b')) (return (ask 'b')))")
	spot := place()
	spot.Facts = roomy(spot.Facts[:2], api.Fact{Key: "spare"})
	before := fmt.Sprint(spot.Facts[:5])
	a, _ := Run(New(0, p, api.Permit{Fuel: 99, Hops: 1}), spot, 99)
	same(t, "facts", fmt.Sprint(spot.Facts[:5]), before)
	spot.Facts[1].Value = num(8)
	same(t, "what was asked", going(a), "94 0 0; 0 at 5 ['bee'] []")
	_, e := Run(Answer(a, 1), spot, 99)
	same(t, "what is asked now", told(e), "done '8'")
}

// nil and a list without entries are the same.
func TestZ3NoEntries(t *testing.T) {
	p := mustMake(t, "(main () (do (f)))(f () (return (go (here))))")
	for _, empty := range []bool{false, true} {
		a := api.Agent{Program: p, Frames: []api.Frame{{Fn: 0, At: 1}, {Fn: 1}}, Permit: api.Permit{Fuel: 9, Hops: 1}}
		if empty {
			a.Program.Words, a.Heap = []string{}, []api.Cell{}
			a.Frames[0].Vars, a.Frames[0].Stack = []api.Value{}, []api.Value{}
			a.Frames[1].Vars, a.Frames[1].Stack = []api.Value{}, []api.Value{}
		}
		same(t, "Own", going(Own(a)), "9 0 1; 0 at 1 [] []; 1 at 0 [] []")
		same(t, "New", going(New(1, a.Program, a.Permit)), "9 0 1; 0 at 0 [] []")
		same(t, "Pack", going(Pack(a)), "9 0 1; 0 at 1 [] []; 1 at 0 [] []")
		b, e := Run(a, api.Spot{Name: "x"}, 9)
		same(t, "Run", told(e)+" "+going(b), "go 'x' 7 0 0; 0 at 1 [] []; 1 at 2 [] []")
		same(t, "Answer", going(Answer(b, 1)), "7 0 0; 0 at 1 [] []; 1 at 2 [] [1]")
	}
}

// The same comes each time: nothing hangs on a call ahead.
func TestZ1Again(t *testing.T) {
	a := calling(t)
	first, e := Run(a, place(), 99)
	for range 3 {
		b, again := Run(a, place(), 99)
		same(t, "again", told(again)+whole(b), told(e)+whole(first))
	}
}
