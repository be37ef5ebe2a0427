package vm

import (
	"fmt"
	"math"
	"slices"
	"strings"
	"testing"

	"wanderstaff/api"
	"wanderstaff/verify"
)

const opNames = "int text load store two cell left right putl putr ask here go say jump else call return pop"

// coded is a code as s has it: Params, Vars, a colon, then instructions, of which A and B are 0, if they are not told.
func coded(s string) (c api.Code) {
	head, body, _ := strings.Cut(s, ": ")
	fmt.Sscan(head, &c.Params, &c.Vars)
	for _, one := range strings.Split(body, ", ") {
		var name string
		var in api.Instr
		fmt.Sscan(one, &name, &in.A, &in.B)
		in.Op = slices.Index(strings.Fields(opNames), name) + 1
		c.Instrs = append(c.Instrs, in)
	}
	return c
}

// words are those of the programs of rows.
func words() []string { return []string{"a", "b", "", "twelve bytes", "long"} }

// place knows a twice, and what b is.
func place() api.Spot {
	return api.Spot{Name: "here", Facts: []api.Fact{{Key: "a", Value: num(5)}, {Key: "b", Value: txt("bee")}, {Key: "a", Value: num(6)}, {Key: "", Value: num(-1)}}}
}

// told tells an event; one that has a field that its kind has not is told otherwise.
func told(e api.Event) string {
	switch e {
	case api.Event{Kind: api.EvRest}:
		return "rest"
	case api.Event{Kind: api.EvSay, Text: e.Text}:
		return "say '" + e.Text + "'"
	case api.Event{Kind: api.EvGo, Text: e.Text}:
		return "go '" + e.Text + "'"
	case api.Event{Kind: api.EvDone, Text: e.Text}:
		return "done '" + e.Text + "'"
	case api.Event{Kind: api.EvDead, Err: e.Err}:
		return fmt.Sprintf("dead %d", e.Err)
	}
	return fmt.Sprintf("%+v", e)
}

// ran is codes, how many steps they go at most, what is told then, and how they go on.
type ran struct {
	codes string // / stands between
	most  int
	event string
	going string
}

// runsAre goes from the beginning of the first code on, with 50 steps, 3 cells and 2 hops.
func runsAre(t *testing.T, rows []ran) {
	t.Helper()
	for _, r := range rows {
		p := api.Program{Words: words()}
		for _, s := range strings.Split(r.codes, " / ") {
			p.Codes = append(p.Codes, coded(s))
		}
		if err := verify.Program(p); err != api.OK {
			t.Errorf("%s: %d is wrong with it", r.codes, err)
			continue
		}
		a := New(4, p, api.Permit{Fuel: 50, Cells: 3, Hops: 2})
		a.Trip = 6
		runIs(t, r.codes, a, r.most, r.event, r.going)
	}
}

// runIs also fails if a or place change.
func runIs(t *testing.T, what string, a api.Agent, most int, event, then string) {
	t.Helper()
	before, spot := whole(a), place()
	b, e := Run(a, spot, most)
	what = fmt.Sprintf("%s, %d steps", what, most)
	same(t, what, told(e), event)
	same(t, what, going(b), then)
	same(t, what+": the argument", whole(a), before)
	same(t, what+": the place", fmt.Sprint(spot), fmt.Sprint(place()))
	if b.ID != a.ID || b.Trip != a.Trip || fmt.Sprint(b.Program) != fmt.Sprint(a.Program) {
		t.Errorf("%s: it is %s", what, whole(b))
	}
}

func TestG2Values(t *testing.T) {
	runsAre(t, []ran{
		{"0 0: int 7, return", 1, "rest", "49 3 2; 0 at 1 [] [7]"},
		{"0 0: int -1073741824, int 1073741824, pop, return", 2, "rest", "48 3 2; 0 at 2 [] [-1073741824 1073741824]"},
		{"0 0: text 1, text 3, text 2, pop, pop, return", 3, "rest", "47 3 2; 0 at 3 [] ['b' 'twelve bytes' '']"},
		{"0 2: int 7, store 1, load 0, load 1, pop, return", 2, "rest", "48 3 2; 0 at 2 [0 7] []"},
		{"0 2: int 7, store 1, load 0, load 1, pop, return", 4, "rest", "46 3 2; 0 at 4 [0 7] [0 7]"},
		{"0 1: text 0, store 0, text 1, store 0, load 0, return", 4, "rest", "46 3 2; 0 at 4 ['b'] []"},
		{"0 0: here, return", 1, "rest", "49 3 2; 0 at 1 [] ['here']"},
		{"0 0: int 1, int 2, pop, return", 3, "rest", "47 3 2; 0 at 3 [] [1]"},
		{"0 0: int 7, return", 2, "done '7'", "48 3 2"},
	})
}

func TestG2Two(t *testing.T) {
	dead := fmt.Sprintf("dead %d", api.ErrType)
	runsAre(t, []ran{
		{"0 0: int 5, int 7, two 1, return", 3, "rest", "47 3 2; 0 at 3 [] [12]"},
		{"0 0: int 5, int 7, two 2, return", 3, "rest", "47 3 2; 0 at 3 [] [-2]"},
		{"0 0: int 5, int 7, two 3, return", 3, "rest", "47 3 2; 0 at 3 [] [35]"},
		{"0 0: int 5, int 7, two 4, return", 3, "rest", "47 3 2; 0 at 3 [] [1]"},
		{"0 0: int 7, int 5, two 4, return", 3, "rest", "47 3 2; 0 at 3 [] [0]"},
		{"0 0: int 5, int 5, two 5, return", 3, "rest", "47 3 2; 0 at 3 [] [1]"},
		{"0 0: int 1073741824, int 2, two 1, return", 3, "rest", "47 3 2; 0 at 3 [] [1]"},
		{"0 0: text 0, text 1, two 1, return", 3, "rest", "47 3 2; 0 at 3 [] ['ab']"},
		{"0 0: text 1, text 0, two 4, return", 3, "rest", "47 3 2; 0 at 3 [] [0]"},
		{"0 0: text 1, int 0, two 5, return", 3, "rest", "47 3 2; 0 at 3 [] [0]"},
		// what it needs is taken off, and nothing is given
		{"0 0: int 9, text 0, int 7, two 1, pop, return", 9, dead, "46 3 2; 0 at 4 [] [9]"},
		{"0 0: int 9, text 0, text 0, two 2, pop, return", 9, dead, "46 3 2; 0 at 4 [] [9]"},
		{"0 0: int 1, int 2, cell, int 7, two 4, return", 9, dead, "45 2 2; 0 at 5 [] []; #0: 1 2"},
	})
}

func TestG2Cells(t *testing.T) {
	dead, full := fmt.Sprintf("dead %d", api.ErrType), fmt.Sprintf("dead %d", api.ErrFull)
	runsAre(t, []ran{
		{"0 0: int 1, text 0, cell, return", 3, "rest", "47 2 2; 0 at 3 [] [#0]; #0: 1 'a'"},
		{"0 0: int 1, text 0, cell, int 2, cell, return", 5, "rest", "45 1 2; 0 at 5 [] [#1]; #0: 1 'a'; #1: #0 2"},
		{"0 0: int 1, text 0, cell, left, return", 4, "rest", "46 2 2; 0 at 4 [] [1]; #0: 1 'a'"},
		{"0 0: int 1, text 0, cell, right, return", 4, "rest", "46 2 2; 0 at 4 [] ['a']; #0: 1 'a'"},
		{"0 1: int 1, int 2, cell, store 0, load 0, int 9, putl, load 0, return", 7, "rest", "43 2 2; 0 at 7 [#0] []; #0: 9 2"},
		{"0 1: int 1, int 2, cell, store 0, load 0, int 9, putr, load 0, return", 7, "rest", "43 2 2; 0 at 7 [#0] []; #0: 1 9"},
		// a cell within itself, and what two names name is one
		{"0 2: int 1, int 2, cell, store 0, load 0, store 1, load 0, load 1, putr, load 1, right, return", 11, "rest", "39 2 2; 0 at 11 [#0 #0] [#0]; #0: 1 #0"},
		{"0 0: int 9, int 1, left, pop, return", 9, dead, "47 3 2; 0 at 3 [] [9]"},
		{"0 0: int 9, text 0, right, pop, return", 9, dead, "47 3 2; 0 at 3 [] [9]"},
		{"0 0: int 9, int 0, int 1, putl, return", 9, dead, "46 3 2; 0 at 4 [] [9]"},
		{"0 0: int 9, text 0, int 1, putr, return", 9, dead, "46 3 2; 0 at 4 [] [9]"},
		// it is the one below the top that must be a cell
		{"0 0: int 9, text 0, int 1, int 2, cell, putl, return", 9, dead, "44 2 2; 0 at 6 [] [9]; #0: 1 2"},
		{"0 0: int 9, text 0, int 1, int 2, cell, putr, return", 9, dead, "44 2 2; 0 at 6 [] [9]; #0: 1 2"},
		{"0 0: int 0, int 1, cell, int 2, cell, int 3, cell, return", 7, "rest", "43 0 2; 0 at 7 [] [#2]; #0: 0 1; #1: #0 2; #2: #1 3"},
		{"0 0: int 9, int 0, int 1, cell, int 2, cell, int 3, cell, int 4, cell, pop, return", 99, full, "40 0 2; 0 at 10 [] [9]; #0: 0 1; #1: #0 2; #2: #1 3"},
	})
}

func TestG2Ask(t *testing.T) {
	dead := fmt.Sprintf("dead %d", api.ErrType)
	runsAre(t, []ran{
		{"0 0: text 0, ask, return", 2, "rest", "48 3 2; 0 at 2 [] [5]"},
		{"0 0: text 1, ask, return", 2, "rest", "48 3 2; 0 at 2 [] ['bee']"},
		{"0 0: text 2, ask, return", 2, "rest", "48 3 2; 0 at 2 [] [-1]"},
		{"0 0: text 4, ask, return", 2, "rest", "48 3 2; 0 at 2 [] [0]"},
		{"0 0: int 9, int 0, ask, pop, return", 9, dead, "47 3 2; 0 at 3 [] [9]"},
		{"0 0: int 9, int 1, int 2, cell, ask, pop, return", 9, dead, "45 2 2; 0 at 5 [] [9]; #0: 1 2"},
	})
}

func TestG2Go(t *testing.T) {
	dead := fmt.Sprintf("dead %d", api.ErrType)
	runsAre(t, []ran{
		{"0 0: int 9, text 1, go, pop, return", 3, "go 'b'", "47 3 1; 0 at 3 [] [9]"},
		{"0 0: int 9, text 1, go, pop, return", 99, "go 'b'", "47 3 1; 0 at 3 [] [9]"},
		// nobody looks here whether there is such a place, or whether it is this one
		{"0 0: text 2, go, return", 9, "go ''", "48 3 1; 0 at 2 [] []"},
		{"0 0: here, go, return", 9, "go 'here'", "48 3 1; 0 at 2 [] []"},
		{"0 0: int 9, int 0, go, pop, return", 9, dead, "47 3 2; 0 at 3 [] [9]"},
		{"0 0: int 9, int 1, int 2, cell, go, pop, return", 9, dead, "45 2 2; 0 at 5 [] [9]; #0: 1 2"},
	})
	p := api.Program{Codes: []api.Code{coded("0 0: int 9, text 1, go, pop, return"), coded("0 0: int 9, int 1, go, pop, return")}, Words: words()}
	a := New(0, p, api.Permit{Fuel: 50, Hops: 1})
	runIs(t, "the last hop", a, 3, "go 'b'", "47 0 0; 0 at 3 [] [9]")
	a.Permit.Hops = 0
	runIs(t, "no hop", a, 3, "rest", "47 0 0; 0 at 3 [] [9 0]")
	runIs(t, "no hop", a, 99, "done '9'", "45 0 0")
	a.Frames[0].Fn = 1
	runIs(t, "no hop, and no text", a, 99, dead, "47 0 0; 1 at 3 [] [9]")
}

func TestG2Say(t *testing.T) {
	runsAre(t, []ran{
		{"0 0: int 9, int -5, say, return", 3, "say '-5'", "47 3 2; 0 at 3 [] [9]"},
		{"0 0: int 9, text 3, say, return", 99, "say 'twelve bytes'", "47 3 2; 0 at 3 [] [9]"},
		{"0 0: int 9, text 2, say, return", 99, "say ''", "47 3 2; 0 at 3 [] [9]"},
		{"0 0: int 9, int 1, text 0, cell, say, return", 99, "say '(1 a)'", "45 2 2; 0 at 5 [] [9]; #0: 1 'a'"},
	})
	circle := api.Program{Codes: []api.Code{coded("0 0: here, say, int 7, return"), coded("0 1: load 0, return")}}
	a := New(0, circle, api.Permit{Fuel: 50})
	a.Frames[0].At, a.Frames[0].Stack, a.Heap = 1, []api.Value{ref(0)}, []api.Cell{pair(ref(0), num(1))}
	runIs(t, "so deep: 4", a, 9, "say '((((.. 1) 1) 1) 1)'", "49 0 0; 0 at 2 [] []; #0: #0 1")
	a.Frames = []api.Frame{{Fn: 1, Vars: []api.Value{ref(0)}}}
	runIs(t, "so deep: 4", a, 9, "done '((((.. 1) 1) 1) 1)'", "48 0 0; #0: #0 1")
}

func TestG2Jumps(t *testing.T) {
	runsAre(t, []ran{
		{"0 0: jump 3, int 1, return, int 2, return", 1, "rest", "49 3 2; 0 at 3 [] []"},
		{"0 0: jump 0", 7, "rest", "43 3 2; 0 at 0 [] []"},
		{"0 0: int 0, else 4, int 1, return, int 2, return", 2, "rest", "48 3 2; 0 at 4 [] []"},
		{"0 0: int 1, else 4, int 1, return, int 2, return", 2, "rest", "48 3 2; 0 at 2 [] []"},
		{"0 0: int -1, else 4, int 1, return, int 2, return", 2, "rest", "48 3 2; 0 at 2 [] []"},
		// neither the empty text nor cell 0 is the number 0
		{"0 0: text 2, else 4, int 1, return, int 2, return", 2, "rest", "48 3 2; 0 at 2 [] []"},
		{"0 0: int 0, int 0, cell, else 6, int 1, return, int 2, return", 4, "rest", "46 2 2; 0 at 4 [] []; #0: 0 0"},
	})
}

func TestG2Calls(t *testing.T) {
	deep := fmt.Sprintf("dead %d", api.ErrDeep)
	two := "0 1: int 9, int 1, text 0, call 1 2, store 0, return / "
	runsAre(t, []ran{
		{two + "2 4: load 1, return", 4, "rest", "46 3 2; 0 at 4 [0] [9]; 1 at 0 [1 'a' 0 0] []"},
		{two + "2 4: load 1, return", 6, "rest", "44 3 2; 0 at 4 [0] [9 'a']"},
		{two + "2 2: load 0, return", 7, "rest", "43 3 2; 0 at 5 [1] [9]"},
		{two + "2 2: load 0, return", 99, "done '9'", "42 3 2"},
		{"0 1: call 1, return / 0 1: int 5, store 0, load 0, return", 3, "rest", "47 3 2; 0 at 1 [0] []; 1 at 2 [5] []"},
		{"0 0: call 1, return / 0 0: call 2, return / 0 0: int 5, return", 4, "rest", "46 3 2; 0 at 1 [] []; 1 at 1 [] [5]"},
		{"0 0: call 1, return / 0 0: call 2, return / 0 0: int 5, return", 6, "done '5'", "44 3 2"},
		{"0 0: int 1, int 2, int 3, int 4, int 5, call 1 4, pop, return / 4 4: load 0, return", 6, "rest", "44 3 2; 0 at 6 [] [1]; 1 at 0 [2 3 4 5] []"},
		// a variable of a call that came to its end is not that of the next one
		{"0 0: call 1, pop, call 1, return / 0 1: load 0, int 5, store 0, return", 7, "rest", "43 3 2; 0 at 3 [] []; 1 at 0 [0] []"},
		// a cell is the same one in all frames
		{"0 1: int 1, int 2, cell, store 0, load 0, call 1 1, pop, load 0, return / 1 1: load 0, text 0, putl, load 0, return", 11, "rest", "39 2 2; 0 at 6 [#0] [#0]; #0: 'a' 2"},
		{"0 0: call 1, return / 0 0: int 1, text 0, call 1, pop, pop, return", 32, "rest",
			"18 3 2; 0 at 1 [] []" + strings.Repeat("; 1 at 3 [] [1 'a']", 10) + "; 1 at 1 [] [1]"},
		// 12 are there, and nothing is taken off
		{"0 0: int 7, call 1 1, return / 1 1: int 1, text 0, call 1 1, pop, return", 99, deep,
			"15 3 2; 0 at 2 [] []; 1 at 3 [7] [1]" + strings.Repeat("; 1 at 3 ['a'] [1]", 9) + "; 1 at 3 ['a'] [1 'a']"},
	})
}

func TestG2Most(t *testing.T) {
	steps := func(fuel int) api.Agent {
		return New(0, api.Program{Codes: []api.Code{coded("0 0: int 9, int 1, say, return")}}, api.Permit{Fuel: fuel})
	}
	dead := fmt.Sprintf("dead %d", api.ErrFuel)
	for _, r := range []struct {
		fuel, most  int
		event, then string
	}{
		{4, 0, "rest", "4 0 0; 0 at 0 [] []"}, {4, -1, "rest", "4 0 0; 0 at 0 [] []"}, {4, math.MinInt, "rest", "4 0 0; 0 at 0 [] []"},
		{4, 1, "rest", "3 0 0; 0 at 1 [] [9]"}, {4, 2, "rest", "2 0 0; 0 at 2 [] [9 1]"},
		{4, 3, "say '1'", "1 0 0; 0 at 3 [] [9]"}, {4, 4, "say '1'", "1 0 0; 0 at 3 [] [9]"}, {4, math.MaxInt, "say '1'", "1 0 0; 0 at 3 [] [9]"},
		{3, 3, "say '1'", "0 0 0; 0 at 3 [] [9]"}, {3, 4, "say '1'", "0 0 0; 0 at 3 [] [9]"},
		// who has done so many steps rests, whether there is fuel or not
		{2, 2, "rest", "0 0 0; 0 at 2 [] [9 1]"}, {2, 3, dead, "0 0 0; 0 at 2 [] [9 1]"}, {1, math.MaxInt, dead, "0 0 0; 0 at 1 [] [9]"},
		{0, 0, "rest", "0 0 0; 0 at 0 [] []"}, {0, -5, "rest", "0 0 0; 0 at 0 [] []"}, {0, 1, dead, "0 0 0; 0 at 0 [] []"},
	} {
		runIs(t, fmt.Sprintf("fuel %d", r.fuel), steps(r.fuel), r.most, r.event, r.then)
	}
	endless := New(0, api.Program{Codes: []api.Code{coded("0 0: jump 0")}}, api.Permit{Fuel: api.MaxFuel})
	runIs(t, "without end", endless, math.MaxInt, dead, "0 0 0; 0 at 0 [] []")
}

// A text is made of 60 bytes at most, a place's name too.
func TestG2LongTexts(t *testing.T) {
	name := strings.Repeat("0123456789", 7)
	spot := api.Spot{Name: name, Facts: []api.Fact{{Key: name, Value: num(1)}, {Key: name[:60], Value: num(2)}}}
	a := New(0, api.Program{Codes: []api.Code{coded("0 0: here, go, pop, here, ask, return")}}, api.Permit{Fuel: 9, Hops: 9})
	a, e := Run(a, spot, 9)
	same(t, "to a long name", told(e), "go '"+name[:60]+"'")
	a, e = Run(Answer(a, 1), spot, 9)
	same(t, "of a long name", told(e), "done '2'")
}

// A place that knows nothing is one as well.
func TestG2NoFacts(t *testing.T) {
	a := New(0, api.Program{Codes: []api.Code{coded("0 0: text 0, ask, return")}, Words: words()}, api.Permit{Fuel: 9})
	for _, l := range [][]api.Fact{nil, {}} {
		_, e := Run(a, api.Spot{Facts: l}, 9)
		same(t, "no facts", told(e), "done '0'")
	}
	_, e := Run(New(0, api.Program{Codes: []api.Code{coded("0 0: here, return")}}, api.Permit{Fuel: 9}), api.Spot{}, 9)
	same(t, "no name", told(e), "done ''")
}

// Fuel and Cells of a place are asked of who comes to it (chapter 9), not of who goes on there.
func TestG2PlaceBounds(t *testing.T) {
	p := mustMake(t, "(main () (let x (cell 1 2)) (set x (cell x x)) (return x))")
	for _, spot := range []api.Spot{{}, {Fuel: 1, Cells: 1}, {Fuel: -1, Cells: -1}} {
		b, e := Run(New(0, p, api.Permit{Fuel: 20, Cells: 5}), spot, 99)
		same(t, "done", told(e), "done '((1 2) (1 2))'")
		same(t, "done", going(b), "10 3 0; #0: 1 2; #1: #0 #0")
	}
}
