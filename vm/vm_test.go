package vm

import (
	"fmt"
	"math"
	"slices"
	"strings"
	"testing"

	"wanderstaff/api"
	"wanderstaff/code"
	"wanderstaff/scope"
	"wanderstaff/text"
	"wanderstaff/verify"
)

func num(n int) api.Value          { return api.Value{N: n} }
func txt(s string) api.Value       { return api.Value{Kind: api.ValText, Text: s} }
func ref(n int) api.Value          { return api.Value{Kind: api.ValCell, N: n} }
func pair(l, r api.Value) api.Cell { return api.Cell{Left: l, Right: r} }

// made is the program of a text; false, if something is wrong with it.
func made(s string) (api.Program, bool) {
	l, err := text.Parse(s)
	if err != api.OK || scope.Check(l) != api.OK {
		return api.Program{}, false
	}
	p, err := code.Make(l)
	return p, err == api.OK
}

// mustMake is the program of a text that is known to be right.
func mustMake(t *testing.T, s string) api.Program {
	t.Helper()
	p, ok := made(s)
	if !ok {
		t.Fatalf("%s is no program", s)
	}
	return p
}

// values tells values: numbers bare, texts within quotes, cells behind #.
func values(l ...api.Value) string {
	var out []string
	for _, v := range l {
		switch v {
		case num(v.N):
			out = append(out, fmt.Sprint(v.N))
		case txt(v.Text):
			out = append(out, fmt.Sprintf("'%s'", v.Text))
		case ref(v.N):
			out = append(out, fmt.Sprintf("#%d", v.N))
		default:
			out = append(out, fmt.Sprintf("%+v", v))
		}
	}
	return strings.Join(out, " ")
}

// going tells how a goes on: its permit; frame by frame its code, where it is, variables and stack; its cells.
func going(a api.Agent) string {
	out := fmt.Sprintf("%d %d %d", a.Permit.Fuel, a.Permit.Cells, a.Permit.Hops)
	for _, f := range a.Frames {
		out += fmt.Sprintf("; %d at %d [%s] [%s]", f.Fn, f.At, values(f.Vars...), values(f.Stack...))
	}
	for i, c := range a.Heap {
		out += fmt.Sprintf("; #%d: %s", i, values(c.Left, c.Right))
	}
	return out
}

// whole tells all of a; a list without entries is told as nil is.
func whole(a api.Agent) string {
	return fmt.Sprintf("%d %d %+v %q: %s", a.ID, a.Trip, a.Program.Codes, a.Program.Words, going(a))
}

// alike tells whether all of a and b is the same; a list without entries is as nil is.
func alike(a, b api.Agent) bool {
	codes := func(c, d api.Code) bool {
		return c.Params == d.Params && c.Vars == d.Vars && slices.Equal(c.Instrs, d.Instrs)
	}
	frames := func(f, g api.Frame) bool {
		return f.Fn == g.Fn && f.At == g.At && slices.Equal(f.Vars, g.Vars) && slices.Equal(f.Stack, g.Stack)
	}
	return a.ID == b.ID && a.Trip == b.Trip && a.Permit == b.Permit && slices.Equal(a.Heap, b.Heap) && slices.EqualFunc(a.Frames, b.Frames, frames) &&
		slices.Equal(a.Program.Words, b.Program.Words) && slices.EqualFunc(a.Program.Codes, b.Program.Codes, codes)
}

// same fails if what comes is something else.
func same(t *testing.T, what, got, want string) {
	t.Helper()
	if got != want {
		t.Errorf("%s:\n%s comes, not\n%s", what, got, want)
	}
}

// gone is an agent that is right, and away: two frames, three cells, of which #1 is not led to.
func gone(t *testing.T) api.Agent {
	t.Helper()
	a := api.Agent{
		ID: 7, Trip: 1,
		Program: mustMake(t, "(main () (let x 1) (say (+ 5 (f 2 x))))(f (a b) (return (+ a (go 'b'))))"),
		Frames: []api.Frame{
			{Fn: 0, At: 6, Vars: []api.Value{ref(2)}, Stack: []api.Value{num(5)}},
			{Fn: 1, At: 3, Vars: []api.Value{txt("a"), ref(0)}, Stack: []api.Value{ref(2)}},
		},
		Heap:   []api.Cell{pair(num(1), txt("b")), pair(ref(1), num(9)), pair(ref(2), num(3))},
		Permit: api.Permit{Fuel: 100, Cells: 10, Hops: 2},
	}
	if err := verify.Agent(a, true); err != api.OK {
		t.Fatalf("%d is wrong with %s", err, whole(a))
	}
	return a
}

const goneGoing = "100 10 2; 0 at 6 [#2] [5]; 1 at 3 ['a' #0] [#2]; #0: 1 'b'; #1: #1 9; #2: #2 3"

func TestG1Own(t *testing.T) {
	a := gone(t)
	b := Own(a)
	same(t, "a copy", whole(b), whole(a))
	same(t, "a copy", going(b), goneGoing)
	same(t, "of nothing", whole(Own(api.Agent{})), whole(api.Agent{}))
	same(t, "a copy of a copy", whole(Own(b)), whole(a))
}

func TestG1New(t *testing.T) {
	p := mustMake(t, "(main () (let x 5) (let y 'a') (say (f x y)))(f (a b) (return a))")
	a := New(4, p, api.Permit{Fuel: 9, Cells: 8, Hops: 7})
	same(t, "New", whole(a), whole(api.Agent{ID: 4, Program: p, Frames: []api.Frame{{Vars: make([]api.Value, 2)}}, Permit: api.Permit{Fuel: 9, Cells: 8, Hops: 7}}))
	same(t, "New", going(a), "9 8 7; 0 at 0 [0 0] []")
	if err := verify.Agent(a, false); err != api.OK {
		t.Errorf("%d is wrong with it", err)
	}
	none := mustMake(t, "(main ())")
	same(t, "no variables, words or permit", going(New(0, none, api.Permit{})), "0 0 0; 0 at 0 [] []")
	full := mustMake(t, "(main () (let a 1) (let b 1) (let c 1) (let d 1) (let e 1) (let f 1) (let g 1) (let h 1))")
	a = New(api.MaxInt, full, api.Permit{Fuel: api.MaxFuel, Cells: api.MaxCells, Hops: api.MaxHops})
	same(t, "eight variables", going(a), "2000 60 12; 0 at 0 [0 0 0 0 0 0 0 0] []")
	if a.ID != api.MaxInt || a.Trip != 0 {
		t.Errorf("ID %d, Trip %d", a.ID, a.Trip)
	}
}

func TestG1Answer(t *testing.T) {
	a := gone(t)
	for _, n := range []int{0, 1, -5, api.MaxInt, -api.MaxInt} {
		b := Answer(a, n)
		want := gone(t)
		want.Frames[1].Stack = []api.Value{ref(2), num(n)}
		same(t, "Answer", whole(b), whole(want))
		if err := verify.Agent(b, false); err != api.OK {
			t.Errorf("%d is wrong with it", err)
		}
	}
	same(t, "twice", going(Answer(Answer(a, 1), 2)), strings.Replace(goneGoing, "[#2];", "[#2 1 2];", 1))
	same(t, "the argument", going(a), goneGoing)
	alone := New(1, mustMake(t, "(main ())"), api.Permit{})
	same(t, "one frame, where nothing lies", going(Answer(alone, 3)), "0 0 0; 0 at 0 [] [3]")
}

// The number is that one, however large it is: of Answer the chapter says no rest.
func TestG1AnswerOfLargeNumbers(t *testing.T) {
	for _, n := range []int{api.MaxInt + 1, -api.MaxInt - 1, api.MaxInt + 4, 1 << 40, -1 << 40, math.MaxInt, math.MinInt} {
		b := Answer(gone(t), n)
		want := gone(t)
		want.Frames[1].Stack = []api.Value{ref(2), num(n)}
		same(t, fmt.Sprint(n), whole(b), whole(want))
		// on an agent about to begin, where nothing lies yet
		begin := New(0, mustMake(t, "(main () (say 1))"), api.Permit{Fuel: 5})
		same(t, fmt.Sprint(n), values(Answer(begin, n).Frames[0].Stack...), values(num(n)))
	}
}

func TestG1Pack(t *testing.T) {
	a := gone(t)
	b := Pack(a)
	want := gone(t)
	want.Frames[0].Vars[0], want.Frames[1].Vars[1], want.Frames[1].Stack[0] = ref(0), ref(1), ref(0)
	want.Heap = []api.Cell{pair(ref(0), num(3)), pair(num(1), txt("b"))}
	same(t, "Pack", whole(b), whole(want))
	same(t, "the argument", going(a), goneGoing)
	same(t, "twice", whole(Pack(b)), whole(b))
	if err := verify.Agent(b, true); err != api.OK {
		t.Errorf("%d is wrong with it", err)
	}
}

// packed is cells, and what frames (variables, then stack) lead to; then what Pack makes of them.
type packed struct {
	what   string
	frames [][2][]api.Value
	heap   []api.Cell
	want   string
}

func packsAre(t *testing.T, rows []packed) {
	t.Helper()
	for _, r := range rows {
		a := api.Agent{Heap: r.heap, Permit: api.Permit{Fuel: 1, Cells: 2, Hops: 3}}
		for _, f := range r.frames {
			a.Frames = append(a.Frames, api.Frame{Vars: f[0], Stack: f[1]})
		}
		before := whole(a)
		same(t, r.what, going(Pack(a)), r.want)
		same(t, r.what+", the argument", whole(a), before)
	}
}

func TestG1PackOrder(t *testing.T) {
	l := func(l ...api.Value) []api.Value { return l }
	// cell n is told by its number
	cells := func(n int) (h []api.Cell) {
		for i := range n {
			h = append(h, pair(num(i), txt("")))
		}
		return h
	}
	packsAre(t, []packed{
		{"two cells, of which one is named", [][2][]api.Value{{l(ref(1)), nil}}, cells(2), "1 2 3; 0 at 0 [#0] []; #0: 1 ''"},
		{"no cells", [][2][]api.Value{{l(num(1)), l(txt("a"))}}, nil, "1 2 3; 0 at 0 [1] ['a']"},
		{"all are gone: permits stay", [][2][]api.Value{{nil, nil}}, cells(9), "1 2 3; 0 at 0 [] []"},
		{"variables ahead of the stack", [][2][]api.Value{{l(ref(2)), l(ref(0), ref(2))}}, cells(3), "1 2 3; 0 at 0 [#0] [#1 #0]; #0: 2 ''; #1: 0 ''"},
		{"frame by frame", [][2][]api.Value{{l(ref(3)), l(ref(1))}, {l(ref(2)), l(ref(0))}}, cells(4),
			"1 2 3; 0 at 0 [#0] [#1]; 0 at 0 [#2] [#3]; #0: 3 ''; #1: 1 ''; #2: 2 ''; #3: 0 ''"},
		{"in a later frame alone", [][2][]api.Value{{l(num(2)), nil}, {nil, nil}, {nil, l(txt(""), ref(2))}}, cells(3),
			"1 2 3; 0 at 0 [2] []; 0 at 0 [] []; 0 at 0 [] ['' #0]; #0: 2 ''"},
		{"what a value leads to comes ahead of the next value", [][2][]api.Value{{l(ref(0), ref(1)), nil}}, []api.Cell{pair(num(5), ref(2)), pair(num(6), num(6)), pair(ref(0), num(7))},
			"1 2 3; 0 at 0 [#0 #2] []; #0: 5 #1; #1: #0 7; #2: 6 6"},
		{"and ahead of the next frame", [][2][]api.Value{{nil, l(ref(0))}, {l(ref(1)), nil}}, []api.Cell{pair(ref(2), num(5)), pair(num(6), num(6)), pair(num(7), num(7))},
			"1 2 3; 0 at 0 [] [#0]; 0 at 0 [#2] []; #0: #1 5; #1: 7 7; #2: 6 6"},
		{"left ones first", [][2][]api.Value{{l(ref(0)), nil}}, []api.Cell{pair(ref(2), ref(1)), pair(num(1), num(1)), pair(num(2), num(2))},
			"1 2 3; 0 at 0 [#0] []; #0: #1 #2; #1: 2 2; #2: 1 1"},
		{"within itself", [][2][]api.Value{{l(ref(1)), l(ref(1))}}, []api.Cell{{}, pair(ref(1), ref(1))}, "1 2 3; 0 at 0 [#0] [#0]; #0: #0 #0"},
	})
}

// Answer and Pack are of agents with a frame; that more is wrong with them does not matter.
func TestG1OfAgentsThatAreNotRight(t *testing.T) {
	odd := api.Value{Kind: 9, N: 1, Text: "a"}
	a := api.Agent{ID: -1, Trip: -2, Frames: []api.Frame{{Fn: 99, At: -7, Vars: []api.Value{odd, ref(1)}}}, Heap: []api.Cell{{}, pair(odd, odd)}, Permit: api.Permit{Fuel: -1, Cells: -1, Hops: -1}}
	b := Own(a)
	b.Frames[0].Stack = []api.Value{num(2)}
	same(t, "Answer", whole(Answer(a, 2)), whole(b))
	b = Own(a)
	b.Frames[0].Vars[1], b.Heap = ref(0), b.Heap[1:]
	same(t, "Pack", whole(Pack(a)), whole(b))
}
