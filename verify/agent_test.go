package verify

import (
	"math"
	"slices"
	"strings"
	"testing"

	"wanderstaff/api"
)

func num(n int) api.Value    { return api.Value{Kind: api.ValInt, N: n} }
func txt(s string) api.Value { return api.Value{Kind: api.ValText, Text: s} }
func ref(n int) api.Value    { return api.Value{Kind: api.ValCell, N: n} }

// gone is an agent that is right, and away: main waits with 5, and f, with its a, has set out.
//
//	main: int 5, int 2, call 1 1, two 1, say, int 0, return: 0 1 2 2 1 0 1
//	f: load 0, text 0, go, two 1, return, int 0, return: 0 1 2 2 1 -1 -1
func gone(t *testing.T) api.Agent {
	t.Helper()
	return api.Agent{
		ID: 7, Trip: 1,
		Program: made(t, "(main () (say (+ 5 (f 2))))(f (a) (return (+ a (go 'b'))))"),
		Frames:  []api.Frame{{Fn: 0, At: 3, Stack: []api.Value{num(5)}}, {Fn: 1, At: 3, Vars: []api.Value{ref(1)}, Stack: []api.Value{txt("a")}}},
		Heap:    []api.Cell{{Left: num(1), Right: txt("b")}, {Left: ref(0), Right: ref(1)}},
		Permit:  api.Permit{Fuel: 100, Cells: 10, Hops: 2},
	}
}

// change is done to an agent; then so much is wrong with it, away, and here.
type change struct {
	what       string
	do         func(a *api.Agent)
	away, here api.Errno
}

func changesAre(t *testing.T, from func(t *testing.T) api.Agent, rows []change) {
	t.Helper()
	for _, r := range rows {
		a := from(t)
		r.do(&a)
		before := tell(a)
		if got := Agent(a, true); got != r.away {
			t.Errorf("%s, away: %d comes, not %d", r.what, got, r.away)
		}
		if got := Agent(a, false); got != r.here {
			t.Errorf("%s, here: %d comes, not %d", r.what, got, r.here)
		}
		if tell(a) != before {
			t.Errorf("%s: %s has become %s", r.what, before, tell(a))
		}
	}
}

// both is a change after which the same is wrong, away and here.
func both(what string, want api.Errno, do func(a *api.Agent)) change {
	return change{what, do, want, want}
}

func TestF3Frames(t *testing.T) {
	at := func(i, at, stack int) func(a *api.Agent) {
		return func(a *api.Agent) {
			a.Frames[i].At, a.Frames[i].Stack = at, make([]api.Value, stack)
		}
	}
	changesAre(t, gone, []change{
		{"as it is", func(a *api.Agent) {}, api.OK, api.ErrFit},
		{"that has its answer", at(1, 3, 2), api.ErrFit, api.OK},
		{"at its beginning", at(1, 0, 0), api.ErrFit, api.OK},
		{"in its midst", at(1, 2, 2), api.ErrFit, api.OK},
		{"as if it had answered", at(1, 2, 1), api.ErrFit, api.ErrFit},
		{"of which one value is missing", at(1, 3, 0), api.ErrFit, api.ErrFit},
		{"with a value too many", at(1, 3, 3), api.ErrFit, api.ErrFit},
		{"where nothing leads", at(1, 5, 0), api.ErrFit, api.ErrFit},
		{"where nothing leads, behind that", at(1, 6, 1), api.ErrFit, api.ErrFit},
		both("no such instruction", api.ErrRange, at(1, 7, 0)), both("below 0", api.ErrRange, at(1, -1, 0)),
		both("far off", api.ErrRange, at(1, math.MinInt, 0)), both("far off", api.ErrRange, at(0, math.MaxInt, 0)),
		// main waits, wherever the last one is
		both("main at 0", api.ErrFit, at(0, 0, 0)), both("main ahead of its call", api.ErrFit, at(0, 2, 1)), both("main behind another one", api.ErrFit, at(0, 4, 0)),
		both("main with an answer", api.ErrFit, at(0, 3, 2)), both("main without its 5", api.ErrFit, at(0, 3, 0)), both("main at its end", api.ErrRange, at(0, 7, 0)),
		both("no such code", api.ErrFit, func(a *api.Agent) { a.Frames[1].Fn = 2 }),
		both("no such code at all", api.ErrRange, func(a *api.Agent) { a.Frames[0].Fn = 2 }), both("below 0", api.ErrRange, func(a *api.Agent) { a.Frames[0].Fn = -1 }),
		both("a variable is missing", api.ErrRange, func(a *api.Agent) { a.Frames[1].Vars = nil }),
		both("a variable too many", api.ErrRange, func(a *api.Agent) { a.Frames[0].Vars = make([]api.Value, 1) }),
		{"main alone", func(a *api.Agent) { a.Frames = a.Frames[:1] }, api.ErrFit, api.ErrFit},
		{"main alone, that goes on", func(a *api.Agent) { at(0, 3, 2)(a); a.Frames = a.Frames[:1] }, api.ErrFit, api.OK},
		{"f alone", func(a *api.Agent) { a.Frames = a.Frames[1:] }, api.OK, api.ErrFit},
		both("main, called by nobody", api.ErrFit, func(a *api.Agent) { a.Frames[1] = api.Frame{} }),
		both("f, called by itself", api.ErrFit, func(a *api.Agent) { a.Frames[0] = a.Frames[1] }),
	})
}

// Calls and goes to which nothing leads are waited for by nobody.
func TestF3WhereNothingLeads(t *testing.T) {
	changesAre(t, gone, []change{
		{"a call", func(a *api.Agent) {
			a.Program.Codes[0] = coded(0, 0, "jump 3, int 1, call 1 1, int 1, return")
			a.Frames[0] = api.Frame{Fn: 0, At: 3}
		}, api.ErrFit, api.ErrFit},
		// something leads behind it, with one value, but not over it
		{"a call ahead of where something leads", func(a *api.Agent) {
			a.Program.Codes[0] = coded(0, 0, "here, jump 3, call 1 1, return")
			a.Frames[0] = api.Frame{Fn: 0, At: 3}
		}, api.ErrFit, api.ErrFit},
		{"a go ahead of where something leads", func(a *api.Agent) {
			a.Program.Codes[1] = coded(1, 1, "here, jump 3, go, return")
			a.Frames[1] = api.Frame{Fn: 1, At: 3, Vars: make([]api.Value, 1)}
		}, api.ErrFit, api.ErrFit},
		{"a go to which something leads", func(a *api.Agent) {
			a.Program.Codes[1] = coded(1, 1, "here, jump 2, go, return")
			a.Frames[1] = api.Frame{Fn: 1, At: 3, Vars: make([]api.Value, 1)}
		}, api.OK, api.ErrFit},
		// away it waits for a go, not for a call
		{"a call of the last one", func(a *api.Agent) {
			a.Frames = []api.Frame{{Fn: 0, At: 3, Stack: make([]api.Value, 1)}}
		}, api.ErrFit, api.ErrFit},
		{"a call that was waited for by a go", func(a *api.Agent) {
			a.Program.Codes[0] = coded(0, 0, "here, go, return")
			a.Frames[0] = api.Frame{Fn: 0, At: 2}
		}, api.ErrFit, api.ErrFit},
	})
}

// Which code is called counts: here both are alike.
func TestF3NextFrame(t *testing.T) {
	two := func(t *testing.T) api.Agent {
		c := coded(0, 0, "call 2, pop, call 1, pop, here, go, return")
		f := api.Frame{Fn: 0, At: 1}
		return api.Agent{Program: api.Program{Codes: []api.Code{c, c, c}}, Frames: []api.Frame{f, {Fn: 2, At: 3}, {Fn: 1, At: 6}}}
	}
	changesAre(t, two, []change{
		{"as it is", func(a *api.Agent) {}, api.OK, api.ErrFit},
		both("the other call", api.ErrFit, func(a *api.Agent) { a.Frames[0].At = 3 }),
		both("the other code", api.ErrFit, func(a *api.Agent) { a.Frames[1].Fn = 1 }),
		{"the other call, of the other code", func(a *api.Agent) { a.Frames[0].At, a.Frames[1].Fn = 3, 1 }, api.OK, api.ErrFit},
		{"the other one last", func(a *api.Agent) { a.Frames[1].At, a.Frames[2].Fn = 1, 2 }, api.OK, api.ErrFit},
		{"twelve frames", func(a *api.Agent) {
			a.Frames = append(slices.Repeat([]api.Frame{{Fn: 2, At: 1}}, 11), api.Frame{Fn: 2, At: 6})
		}, api.OK, api.ErrFit},
		both("thirteen frames", api.ErrMany, func(a *api.Agent) {
			a.Frames = append(slices.Repeat([]api.Frame{{Fn: 2, At: 1}}, 12), api.Frame{Fn: 2, At: 6})
		}),
		both("no frames", api.ErrMany, func(a *api.Agent) { a.Frames = []api.Frame{} }),
		both("nil", api.ErrMany, func(a *api.Agent) { a.Frames = nil }),
	})
}

func TestF3Numbers(t *testing.T) {
	var rows []change
	for _, r := range []struct {
		what string
		most int
		set  func(a *api.Agent, n int)
	}{
		{"ID", 1 << 30, func(a *api.Agent, n int) { a.ID = n }}, {"Trip", 1 << 30, func(a *api.Agent, n int) { a.Trip = n }},
		{"Fuel", 2000, func(a *api.Agent, n int) { a.Permit.Fuel = n }}, {"Hops", 12, func(a *api.Agent, n int) { a.Permit.Hops = n }},
		{"Cells", 60, func(a *api.Agent, n int) {
			a.Permit.Cells, a.Heap, a.Frames[1].Vars = n, nil, []api.Value{num(1)}
		}},
	} {
		for _, n := range []int{0, 1, r.most} {
			rows = append(rows, change{r.what, func(a *api.Agent) { r.set(a, n) }, api.OK, api.ErrFit})
		}
		for _, n := range []int{-1, r.most + 1, math.MinInt, math.MaxInt} {
			rows = append(rows, both(r.what, api.ErrRange, func(a *api.Agent) { r.set(a, n) }))
		}
	}
	changesAre(t, gone, rows)
}

func TestF3Cells(t *testing.T) {
	cells := func(count, left int) func(a *api.Agent) {
		return func(a *api.Agent) { a.Heap, a.Permit.Cells = make([]api.Cell, count), left }
	}
	changesAre(t, gone, []change{
		{"as many as may be", cells(50, 10), api.OK, api.ErrFit}, both("one more", api.ErrMuch, cells(51, 10)),
		{"sixty", cells(60, 0), api.OK, api.ErrFit}, both("61", api.ErrMuch, cells(61, 0)),
		both("one, and 60 left", api.ErrMuch, cells(1, 60)), {"two, and 58 left", cells(2, 58), api.OK, api.ErrFit},
	})
}

func TestF3Values(t *testing.T) {
	long := strings.Repeat("x", 61)
	wrong := []struct {
		v    api.Value
		want api.Errno
	}{
		{num(7), api.OK}, {txt(long[:60]), api.OK}, {ref(0), api.OK}, {ref(1), api.OK}, {num(-1 << 30), api.OK},
		{api.Value{Kind: 3}, api.ErrKind}, {api.Value{Kind: -1}, api.ErrKind}, {num(1<<30 + 1), api.ErrRange}, {txt(long), api.ErrMuch},
		{ref(2), api.ErrNone}, {ref(-1), api.ErrNone}, {api.Value{Text: "a"}, api.ErrForm}, {api.Value{Kind: api.ValText, N: 1}, api.ErrForm}, {api.Value{Kind: api.ValCell, Text: "a"}, api.ErrForm},
	}
	var rows []change
	for _, w := range wrong {
		for i, to := range []func(a *api.Agent) *api.Value{
			func(a *api.Agent) *api.Value { return &a.Frames[0].Stack[0] }, func(a *api.Agent) *api.Value { return &a.Frames[1].Vars[0] }, func(a *api.Agent) *api.Value { return &a.Frames[1].Stack[0] },
			func(a *api.Agent) *api.Value { return &a.Heap[0].Left }, func(a *api.Agent) *api.Value { return &a.Heap[0].Right }, func(a *api.Agent) *api.Value { return &a.Heap[1].Left }, func(a *api.Agent) *api.Value { return &a.Heap[1].Right },
		} {
			// here the last frame has not as many values, which comes ahead of what is wrong with them, but not of the frame above it
			here := api.ErrFit
			if i == 0 && w.want != api.OK {
				here = w.want
			}
			rows = append(rows, change{"a value", func(a *api.Agent) { *to(a) = w.v }, w.want, here})
		}
	}
	changesAre(t, gone, rows)
}

// Of several errors the first one is told: each agent has one error less than the one above it.
func TestF3Turn(t *testing.T) {
	a := gone(t)
	next := func(what string, want api.Errno) {
		t.Helper()
		if got := Agent(a, true); got != want {
			t.Errorf("%s: %d comes, not %d", what, got, want)
		}
	}
	kind, form, much, none := api.Value{Kind: 3}, api.Value{Text: "a"}, txt(strings.Repeat("x", 61)), ref(99)
	frames := slices.Clone(a.Frames)
	a.Program.Words = []string{"'"}
	a.Trip = -1
	a.Frames = nil
	a.Heap = slices.Repeat([]api.Cell{{Left: kind, Right: kind}}, 51)
	next("the program", api.ErrName)
	a.Program.Words = []string{"b"}
	next("a number", api.ErrRange)
	a.Trip = 1
	next("frames", api.ErrMany)
	a.Frames = []api.Frame{{At: 99, Stack: []api.Value{much, much}}, {Fn: 1, At: 99, Vars: []api.Value{form}, Stack: []api.Value{none, none}}}
	next("cells", api.ErrMuch)
	a.Heap = []api.Cell{{Left: num(1<<30 + 1), Right: much}, {Left: kind, Right: form}}
	next("main's instruction", api.ErrRange)
	a.Frames[0].At = 2
	next("main's wait", api.ErrFit)
	a.Frames[0].At = 3
	next("main's values", api.ErrFit)
	a.Frames[0].Stack = []api.Value{much}
	next("main's value, ahead of the next frame", api.ErrMuch)
	a.Frames[0].Stack = frames[0].Stack
	next("f's instruction", api.ErrRange)
	a.Frames[1].At = 4
	next("f's wait", api.ErrFit)
	a.Frames[1].At = 3
	next("f's values", api.ErrFit)
	a.Frames[1].Stack = []api.Value{none}
	next("f's variable", api.ErrForm)
	a.Frames[1].Vars = []api.Value{num(1)}
	next("f's value", api.ErrNone)
	a.Frames[1].Stack = frames[1].Stack
	// cell by cell, the left one first
	next("the first left one", api.ErrRange)
	a.Heap[0].Left = num(1)
	next("the first right one", api.ErrMuch)
	a.Heap[0].Right = num(1)
	next("the second left one", api.ErrKind)
	a.Heap[1].Left = num(1)
	next("the second right one", api.ErrForm)
	a.Heap[1].Right = num(1)
	next("nothing", api.OK)
}
