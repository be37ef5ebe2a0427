package alone

import (
	"fmt"
	"math"
	"reflect"
	"slices"
	"strings"
	"testing"

	"wanderstaff/api"
	"wanderstaff/code"
	"wanderstaff/scope"
	"wanderstaff/text"
	"wanderstaff/verify"
	"wanderstaff/vm"
)

func num(n int) api.Value          { return api.Value{N: n} }
func txt(s string) api.Value       { return api.Value{Kind: api.ValText, Text: s} }
func ref(n int) api.Value          { return api.Value{Kind: api.ValCell, N: n} }
func pair(l, r api.Value) api.Cell { return api.Cell{Left: l, Right: r} }

// made is the program of a text; false, if something is wrong with it.
func made(s string) (api.Program, bool) {
	l, err := text.Parse(s)
	if err != api.OK || scope.Check(l) != api.OK {
		return api.Program{}, false
	}
	p, err := code.Make(l)
	return p, err == api.OK
}

// mustMake is the program of a text that is known to be right.
func mustMake(t *testing.T, s string) api.Program {
	t.Helper()
	p, ok := made(s)
	if !ok {
		t.Fatalf("%s is no program", s)
	}
	return p
}

// fact is one that knows v of key.
func fact(key string, v api.Value) []api.Fact { return []api.Fact{{Key: key, Value: v}} }

// three places, of which b knows a price twice, and c none.
func three() []api.Spot {
	return []api.Spot{
		{Name: "a", Facts: fact("price", num(5)), Fuel: 300, Cells: 20},
		{Name: "b", Facts: []api.Fact{{Key: "price", Value: num(7)}, {Key: "price", Value: num(8)}}, Fuel: 200, Cells: 3},
		{Name: "c", Fuel: 300, Cells: 2},
	}
}

// wrong is three places with a change, and what must be told of them.
type wrong struct {
	what   string
	change func(l []api.Spot)
	err    api.Errno
	at     int
}

func wrongsAre(t *testing.T, rows []wrong) {
	t.Helper()
	for _, r := range rows {
		l := three()
		r.change(l)
		wrongIs(t, r.what, l, r.err, r.at)
	}
}

// wrongIs also fails if l changes.
func wrongIs(t *testing.T, what string, l []api.Spot, err api.Errno, at int) {
	t.Helper()
	before := fmt.Sprintf("%+v", l)
	if e, i := Wrong(l); e != err || i != at {
		t.Errorf("%s: %d at %d comes, not %d at %d", what, e, i, err, at)
	}
	if after := fmt.Sprintf("%+v", l); after != before {
		t.Errorf("%s: %s has become %s", what, before, after)
	}
}

func TestI1WrongCount(t *testing.T) {
	named := func(count int) (l []api.Spot) {
		for i := range count {
			l = append(l, api.Spot{Name: fmt.Sprint(i)})
		}
		return l
	}
	wrongIs(t, "nil", nil, api.ErrMany, -1)
	wrongIs(t, "none", []api.Spot{}, api.ErrMany, -1)
	for count := 1; count <= 4; count++ {
		wrongIs(t, "1 to 4", named(count), api.OK, -1)
	}
	wrongIs(t, "5", named(5), api.ErrMany, -1)
	wrongIs(t, "99", named(99), api.ErrMany, -1)
	wrongIs(t, "5, of which one has no name", append(named(4), api.Spot{}), api.ErrMany, -1)
	wrongIs(t, "5, of which all have no name", make([]api.Spot, 5), api.ErrMany, -1)
	wrongIs(t, "three places", three(), api.OK, -1)
}

func TestI1WrongName(t *testing.T) {
	name := func(i int, s string) func(l []api.Spot) { return func(l []api.Spot) { l[i].Name = s } }
	wrongsAre(t, []wrong{
		{"without a name", name(0, ""), api.ErrName, 0},
		{"without a name", name(1, ""), api.ErrName, 1},
		{"without a name", name(2, ""), api.ErrName, 2},
		{"12 bytes", name(1, "twelve bytes"), api.OK, -1},
		{"13 bytes", name(1, "thirteen byte"), api.ErrName, 1},
		{"long", name(0, strings.Repeat("x", 1000)), api.ErrName, 0},
		// bytes count, and any bytes may be
		{"12 bytes, 6 letters", name(2, "éééééé"), api.OK, -1},
		{"14 bytes, 7 letters", name(2, "ééééééé"), api.ErrName, 2},
		{"any bytes", name(0, "\x00\xff\n' )"), api.OK, -1},
		{"a blank", name(0, " "), api.OK, -1},
		{"of the first one", name(1, "a"), api.ErrName, 1},
		{"of the first one", name(2, "a"), api.ErrName, 2},
		{"of the one ahead", name(2, "b"), api.ErrName, 2},
		{"of one behind: that one is told", name(0, "c"), api.ErrName, 2},
		{"another letter", name(1, "A"), api.OK, -1},
		{"a blank more", name(1, "a "), api.OK, -1},
		{"a beginning", name(1, "ab"), api.OK, -1},
		{"all the same", func(l []api.Spot) { l[1].Name, l[2].Name = "a", "a" }, api.ErrName, 1},
	})
}

func TestI1WrongRange(t *testing.T) {
	fuel := func(i, n int) func(l []api.Spot) { return func(l []api.Spot) { l[i].Fuel = n } }
	cells := func(i, n int) func(l []api.Spot) { return func(l []api.Spot) { l[i].Cells = n } }
	wrongsAre(t, []wrong{
		{"fuel -1", fuel(0, -1), api.ErrRange, 0}, {"fuel 0", fuel(0, 0), api.OK, -1},
		{"fuel 2000", fuel(1, 2000), api.OK, -1}, {"fuel 2001", fuel(1, 2001), api.ErrRange, 1},
		{"fuel MinInt", fuel(2, math.MinInt), api.ErrRange, 2}, {"fuel MaxInt", fuel(2, math.MaxInt), api.ErrRange, 2},
		{"cells -1", cells(0, -1), api.ErrRange, 0}, {"cells 0", cells(0, 0), api.OK, -1},
		{"cells 60", cells(1, 60), api.OK, -1}, {"cells 61", cells(1, 61), api.ErrRange, 1},
		{"cells MinInt", cells(2, math.MinInt), api.ErrRange, 2}, {"cells MaxInt", cells(2, math.MaxInt), api.ErrRange, 2},
	})
}

func TestI1WrongFacts(t *testing.T) {
	facts := func(i int, f ...api.Fact) func(l []api.Spot) { return func(l []api.Spot) { l[i].Facts = f } }
	of := func(key string, v api.Value) func(l []api.Spot) {
		return facts(1, api.Fact{Key: "first"}, api.Fact{Key: key, Value: v})
	}
	full, much := strings.Repeat("x", 60), strings.Repeat("x", 61)
	bad := api.Fact{Key: much, Value: ref(0)}
	wrongsAre(t, []wrong{
		{"no facts", facts(0), api.OK, -1},
		{"4 facts, of one key", facts(0, make([]api.Fact, 4)...), api.OK, -1},
		{"5 facts", facts(0, make([]api.Fact, 5)...), api.ErrMany, 0},
		{"5 facts, that may not be either", facts(2, bad, bad, bad, bad, bad), api.ErrMany, 2},
		{"the last of 4 facts", facts(2, api.Fact{}, api.Fact{}, api.Fact{}, bad), api.ErrType, 2},
		{"the first of 4 facts", facts(2, bad, api.Fact{}, api.Fact{}, api.Fact{}), api.ErrType, 2},
		{"a key without bytes", of("", num(1)), api.OK, -1},
		{"a key of any bytes", of("'\n\xff", num(1)), api.OK, -1},
		{"a key of 60 bytes", of(full, num(1)), api.OK, -1},
		{"a key of 61 bytes", of(much, num(1)), api.ErrType, 1},
		{"a large number", of("k", num(api.MaxInt)), api.OK, -1},
		{"a large number", of("k", num(-api.MaxInt)), api.OK, -1},
		{"a number too large", of("k", num(api.MaxInt+1)), api.ErrType, 1},
		{"a number too small", of("k", num(-api.MaxInt-1)), api.ErrType, 1},
		{"a text of 60 bytes", of("k", txt(full)), api.OK, -1},
		{"a text of 61 bytes", of("k", txt(much)), api.ErrType, 1},
		{"a cell", of("k", ref(0)), api.ErrType, 1},
		{"a cell", of("k", ref(1)), api.ErrType, 1},
		{"no cell", of("k", ref(-1)), api.ErrType, 1},
		{"no kind", of("k", api.Value{Kind: 3}), api.ErrType, 1},
		{"no kind", of("k", api.Value{Kind: -1}), api.ErrType, 1},
		{"a text with a number", of("k", api.Value{Kind: api.ValText, N: 1}), api.ErrType, 1},
		{"a number with a text", of("k", api.Value{Text: "x"}), api.ErrType, 1},
	})
}

func TestI1WrongInTurn(t *testing.T) {
	bad := api.Fact{Value: ref(0)}
	wrongsAre(t, []wrong{
		{"all of one", func(l []api.Spot) { l[1] = api.Spot{Facts: slices.Repeat([]api.Fact{bad}, 5), Fuel: -1, Cells: -1} }, api.ErrName, 1},
		{"all but the name", func(l []api.Spot) {
			l[1] = api.Spot{Name: "b", Facts: slices.Repeat([]api.Fact{bad}, 5), Cells: 61}
		}, api.ErrRange, 1},
		{"place by place", func(l []api.Spot) { l[0].Facts, l[1].Name = []api.Fact{bad}, "" }, api.ErrType, 0},
		{"place by place", func(l []api.Spot) { l[1].Cells, l[2].Name = 61, "" }, api.ErrRange, 1},
		// the name of one ahead is taken, whatever else is wrong behind it
		{"place by place", func(l []api.Spot) { l[1].Name, l[2].Name, l[2].Fuel = "c", "c", -1 }, api.ErrName, 2},
	})
}

func TestI1Find(t *testing.T) {
	l := three()
	twice := append(three(), api.Spot{Name: "b"}, api.Spot{Name: ""}, api.Spot{Name: "sixth"})
	for _, r := range []struct {
		l    []api.Spot
		name string
		want int
	}{
		{l, "a", 0}, {l, "b", 1}, {l, "c", 2}, {l, "d", -1}, {l, "", -1}, {l, "A", -1}, {l, "ab", -1}, {l, "a ", -1}, {l, "price", -1},
		{nil, "a", -1}, {nil, "", -1}, {[]api.Spot{}, "a", -1},
		// places with which something is wrong have numbers too
		{twice, "b", 1}, {twice, "", 4}, {twice, "sixth", 5}, {l[1:], "a", -1}, {l[1:], "c", 1},
		{l[:1], "b", -1},
	} {
		if got := Find(r.l, r.name); got != r.want {
			t.Errorf("%q of %d: %d comes, not %d", r.name, len(r.l), got, r.want)
		}
	}
}

func TestI1Permit(t *testing.T) {
	for _, r := range []struct {
		p    api.Permit
		want api.Errno
	}{
		{api.Permit{}, api.OK}, {api.Permit{Fuel: 2000, Cells: 60, Hops: 12}, api.OK}, {api.Permit{Fuel: 1, Cells: 1, Hops: 1}, api.OK},
		{api.Permit{Fuel: 2001}, api.ErrRange}, {api.Permit{Fuel: -1}, api.ErrRange},
		{api.Permit{Cells: 61}, api.ErrRange}, {api.Permit{Cells: -1}, api.ErrRange},
		{api.Permit{Hops: 13}, api.ErrRange}, {api.Permit{Hops: -1}, api.ErrRange},
		{api.Permit{Fuel: math.MaxInt, Cells: math.MaxInt, Hops: math.MaxInt}, api.ErrRange},
		{api.Permit{Fuel: math.MinInt}, api.ErrRange}, {api.Permit{Cells: math.MinInt}, api.ErrRange}, {api.Permit{Hops: math.MinInt}, api.ErrRange},
	} {
		if got := Permit(r.p); got != r.want {
			t.Errorf("%+v: %d comes, not %d", r.p, got, r.want)
		}
	}
}

// gone is an agent that is right, and away: two frames, three cells, of which #1 is not led to.
func gone(t *testing.T) api.Agent {
	t.Helper()
	a := api.Agent{
		ID: 7, Trip: 3,
		Program: mustMake(t, "(main () (let x 1) (say (+ 5 (f 2 x))))(f (a b) (return (+ a (go 'b'))))"),
		Frames: []api.Frame{
			{Fn: 0, At: 6, Vars: []api.Value{ref(2)}, Stack: []api.Value{num(5)}},
			{Fn: 1, At: 3, Vars: []api.Value{txt("a"), ref(0)}, Stack: []api.Value{ref(2)}},
		},
		Heap:   []api.Cell{pair(num(1), txt("b")), pair(ref(1), num(9)), pair(ref(2), num(3))},
		Permit: api.Permit{Fuel: 100, Cells: 10, Hops: 2},
	}
	if err := verify.Agent(a, true); err != api.OK {
		t.Fatalf("%d is wrong with it", err)
	}
	return a
}

// come is gone, let in, with that fuel.
func come(t *testing.T, fuel int) api.Agent {
	t.Helper()
	a := gone(t)
	a.Frames[0].Vars[0], a.Frames[1].Vars[1], a.Frames[1].Stack = ref(0), ref(1), []api.Value{ref(0), num(1)}
	a.Heap = []api.Cell{pair(ref(0), num(3)), pair(num(1), txt("b"))}
	a.Permit.Fuel = fuel
	if err := verify.Agent(a, false); err != api.OK {
		t.Fatalf("%d is wrong with it", err)
	}
	return a
}

// whole tells all of a; a list without entries is told as nil is.
func whole(a api.Agent) string { return fmt.Sprintf("%+v", a) }

// letIs also fails if a changes; nothing but false may come of one that is not let in.
func letIs(t *testing.T, what string, a api.Agent, s api.Spot, want api.Agent, in bool) {
	t.Helper()
	before := whole(a)
	got, ok := Let(a, s)
	if ok != in || whole(got) != whole(want) {
		t.Errorf("%s: %s, %t comes, not %s, %t", what, whole(got), ok, whole(want), in)
	}
	if !in && !reflect.DeepEqual(got, api.Agent{}) {
		t.Errorf("%s: %s comes beside false", what, whole(got))
	}
	if whole(a) != before {
		t.Errorf("%s: %s has become %s", what, before, whole(a))
	}
}

func TestI1Let(t *testing.T) {
	for _, r := range []struct {
		spot api.Spot
		fuel int
		in   bool
	}{
		{api.Spot{Fuel: 300, Cells: 20}, 100, true},
		{api.Spot{Fuel: 101, Cells: 20}, 100, true}, {api.Spot{Fuel: 100, Cells: 20}, 100, true}, {api.Spot{Fuel: 99, Cells: 20}, 99, true},
		{api.Spot{Fuel: 1, Cells: 60}, 1, true}, {api.Spot{Fuel: 0, Cells: 60}, 0, true}, {api.Spot{Fuel: 2000, Cells: 60}, 100, true},
		// it has three cells, of which two are named
		{api.Spot{Fuel: 300, Cells: 3}, 100, true}, {api.Spot{Fuel: 300, Cells: 2}, 100, true},
		{api.Spot{Fuel: 300, Cells: 1}, 0, false}, {api.Spot{Fuel: 300, Cells: 0}, 0, false}, {api.Spot{Fuel: 0, Cells: 1}, 0, false},
		// its name, and what it knows, are no matter
		{api.Spot{Name: "a", Facts: fact("a", num(1)), Fuel: 50, Cells: 2}, 50, true},
		{api.Spot{Name: "b", Facts: fact("a", num(1)), Fuel: 50, Cells: 1}, 0, false},
	} {
		want := api.Agent{}
		if r.in {
			want = come(t, r.fuel)
		}
		letIs(t, fmt.Sprintf("%+v", r.spot), gone(t), r.spot, want, r.in)
	}
}

// Who has no cells is let in where none may be; how many more it may have is no matter.
func TestI1LetWithoutCells(t *testing.T) {
	a := api.Agent{Program: mustMake(t, "(main () (do (go 'b')))"), Frames: []api.Frame{{At: 2}}, Permit: api.Permit{Fuel: 9, Cells: 60, Hops: 12}}
	b := vm.Own(a)
	b.Frames[0].Stack = []api.Value{num(1)}
	letIs(t, "no cells", a, api.Spot{Fuel: 10}, b, true)
	b.Permit.Fuel = 0
	letIs(t, "no cells, no fuel", a, api.Spot{}, b, true)
	// all that it has is named by nobody
	a.Permit.Cells, b.Permit.Cells, b.Permit.Fuel = 57, 57, 9
	a.Heap = []api.Cell{pair(ref(1), ref(2)), pair(ref(0), ref(0)), pair(ref(2), ref(2))}
	letIs(t, "cells that nobody names", a, api.Spot{Fuel: 9}, b, true)
	letIs(t, "fewer than none may be", a, api.Spot{Fuel: 9, Cells: -1}, api.Agent{}, false)
}

// The most cells that may be.
func TestI1LetWithAllCells(t *testing.T) {
	a := gone(t)
	a.Permit.Cells, a.Heap = 0, nil
	for i := range 60 {
		a.Heap = append(a.Heap, pair(num(i), ref((i+1)%60)))
	}
	a.Frames[0].Vars[0], a.Frames[1].Vars[1], a.Frames[1].Stack[0] = ref(0), ref(59), ref(30)
	b := vm.Own(a)
	b.Frames[1].Stack = append(b.Frames[1].Stack, num(1))
	letIs(t, "60 cells", a, api.Spot{Fuel: 2000, Cells: 60}, b, true)
	letIs(t, "60 cells", a, api.Spot{Fuel: 2000, Cells: 59}, api.Agent{}, false)
}
