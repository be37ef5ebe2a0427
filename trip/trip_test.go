package trip

import (
	"fmt"
	"math"
	"testing"

	"wanderstaff/api"
	"wanderstaff/code"
	"wanderstaff/image"
	"wanderstaff/scope"
	"wanderstaff/text"
	"wanderstaff/verify"
	"wanderstaff/vm"
)

func num(n int) api.Value          { return api.Value{N: n} }
func txt(s string) api.Value       { return api.Value{Kind: api.ValText, Text: s} }
func ref(n int) api.Value          { return api.Value{Kind: api.ValCell, N: n} }
func pair(l, r api.Value) api.Cell { return api.Cell{Left: l, Right: r} }

// mustMake is the program of a text that is known to be right.
func mustMake(t *testing.T, s string) api.Program {
	t.Helper()
	l, err := text.Parse(s)
	if err != api.OK || scope.Check(l) != api.OK {
		t.Fatalf("%s is no program", s)
	}
	p, err := code.Make(l)
	if err != api.OK {
		t.Fatalf("%s: %d", s, err)
	}
	return p
}

// whole tells all of x; a list without entries is told as nil is.
func whole(x any) string { return fmt.Sprintf("%+v", x) }

func same(t *testing.T, what, got, want string) {
	t.Helper()
	if got != want {
		t.Errorf("%s:\n%s comes, not\n%s", what, got, want)
	}
}

// gone is an agent that is right, and away: two frames, three cells, of which #1 is not led to.
func gone(t *testing.T) api.Agent {
	t.Helper()
	a := api.Agent{
		ID: 7, Trip: 3,
		Program: mustMake(t, "(main () (let x 1) (say (+ 5 (f 2 x))))(f (a b) (return (+ a (go 'b'))))"),
		Frames: []api.Frame{
			{Fn: 0, At: 6, Vars: []api.Value{ref(2)}, Stack: []api.Value{num(5)}},
			{Fn: 1, At: 3, Vars: []api.Value{txt("a"), ref(0)}, Stack: []api.Value{ref(2)}},
		},
		Heap:   []api.Cell{pair(num(1), txt("b")), pair(ref(1), num(9)), pair(ref(2), num(3))},
		Permit: api.Permit{Fuel: 100, Cells: 10, Hops: 2},
	}
	if err := verify.Agent(a, true); err != api.OK {
		t.Fatalf("%d is wrong with it", err)
	}
	return a
}

// come is gone, let in, with that fuel.
func come(t *testing.T, fuel int) api.Agent {
	t.Helper()
	a := gone(t)
	a.Frames[0].Vars[0], a.Frames[1].Vars[1], a.Frames[1].Stack = ref(0), ref(1), []api.Value{ref(0), num(1)}
	a.Heap = []api.Cell{pair(ref(0), num(3)), pair(num(1), txt("b"))}
	a.Permit.Fuel = fuel
	if err := verify.Agent(a, false); err != api.OK {
		t.Fatalf("%d is wrong with it", err)
	}
	return a
}

// back is gone, that was not let in: all that it has stays as it lies.
func back(t *testing.T) api.Agent {
	t.Helper()
	a := gone(t)
	a.Frames[1].Stack = []api.Value{ref(2), num(0)}
	if err := verify.Agent(a, false); err != api.OK {
		t.Fatalf("%d is wrong with it", err)
	}
	return a
}

// small is an agent that is away, and has no cells.
func small(t *testing.T, id, trip int) api.Agent {
	t.Helper()
	a := api.Agent{ID: id, Trip: trip, Program: mustMake(t, "(main () (do (go 'b')))"), Frames: []api.Frame{{At: 2}}, Permit: api.Permit{Fuel: 9, Hops: 1}}
	if err := verify.Agent(a, true); err != api.OK {
		t.Fatalf("%d is wrong with it", err)
	}
	return a
}

// here is small where it goes on, as it was answered.
func here(t *testing.T, id, trip, answer int) api.Agent {
	a := small(t, id, trip)
	a.Frames[0].Stack = []api.Value{num(answer)}
	return a
}

// busy is a place where two go on, three have set out, and two were seen.
func busy(t *testing.T) api.Place {
	return api.Place{
		Agents: []api.Agent{here(t, 1, 1, 1), here(t, 2, 0, 0)},
		Away:   []api.Agent{small(t, 3, 1), gone(t), small(t, 3, 4)},
		Whom:   []int{1, 2, 3},
		Seen:   []api.Seen{{ID: 5, Trip: 2, Yes: true}, {ID: 1, Trip: 1, Yes: true}},
	}
}

func TestJ1Leave(t *testing.T) {
	var p api.Place
	want := api.Place{}
	for i, to := range []int{1, 0, 3, 1} {
		a := gone(t)
		a.ID, a.Trip = i, 5*i
		before, beforeAgent := whole(p), whole(a)
		q := Leave(p, a, to)
		same(t, "the place that is handed in", whole(p), before)
		same(t, "the agent that is handed in", whole(a), beforeAgent)
		a.Trip++
		want.Away, want.Whom = append(want.Away, a), append(want.Whom, to)
		same(t, "who leaves", whole(q), whole(want))
		p = q
	}
}

func TestJ1LeaveTouchesNothingElse(t *testing.T) {
	p, a := busy(t), gone(t)
	p.Down = true
	want := busy(t)
	want.Down = true
	want.Away, want.Whom = append(want.Away, gone(t)), append(want.Whom, 0)
	want.Away[3].Trip = 4
	same(t, "a busy place", whole(Leave(p, a, 0)), whole(want))
	// the one that leaves may be seen there, or go on, or have set out: it is one more
	again := Leave(Leave(busy(t), small(t, 1, 1), 2), small(t, 1, 1), 2)
	same(t, "twice", whole(again.Away[3:]), whole([]api.Agent{small(t, 1, 2), small(t, 1, 2)}))
	same(t, "twice", whole(again.Whom), "[1 2 3 2 2]")
	same(t, "those that go on", whole(again.Agents), whole(busy(t).Agents))
	same(t, "those that were seen", whole(again.Seen), whole(busy(t).Seen))
}

// To where, and which trip, is no matter to Leave.
func TestJ1LeaveOfAnyNumber(t *testing.T) {
	for _, to := range []int{math.MinInt, -1, 0, 3, 4, math.MaxInt} {
		for _, trip := range []int{-2, -1, 0, 1, api.MaxInt - 1, api.MaxInt} {
			a := gone(t)
			a.Trip = trip
			want := gone(t)
			want.Trip = trip + 1
			same(t, fmt.Sprint(to, trip), whole(Leave(api.Place{}, a, to)), whole(api.Place{Away: []api.Agent{want}, Whom: []int{to}}))
		}
	}
}

func TestJ1Offers(t *testing.T) {
	for _, p := range []api.Place{{}, {Agents: busy(t).Agents, Seen: busy(t).Seen, Down: true}} {
		if l := Offers(p, 1); len(l) != 0 {
			t.Errorf("%+v comes of nobody", l)
		}
	}
	for _, me := range []int{0, 1, 3} {
		p := busy(t)
		before := whole(p)
		want := []api.Packet{
			{Kind: 1, From: me, To: 1, ID: 3, Trip: 1, Data: image.Bytes(small(t, 3, 1))},
			{Kind: 1, From: me, To: 2, ID: 7, Trip: 3, Data: image.Bytes(gone(t))},
			{Kind: 1, From: me, To: 3, ID: 3, Trip: 4, Data: image.Bytes(small(t, 3, 4))},
		}
		same(t, "offers", whole(Offers(p, me)), whole(want))
		p.Down = true
		same(t, "offers of who is down", whole(Offers(p, me)), whole(want))
		p.Down = false
		same(t, "the place that is handed in", whole(p), before)
	}
}

// What is offered is who has set out: it comes back from its bytes, packed, with its new trip.
func TestJ1OffersOfWhoHasLeft(t *testing.T) {
	a := gone(t)
	l := Offers(Leave(api.Place{}, a, 2), 0)
	if len(l) != 1 || l[0].Trip != 4 {
		t.Fatalf("%+v comes", l)
	}
	x, err := Parse(Bytes(l[0]))
	if err != api.OK || whole(x) != whole(l[0]) {
		t.Errorf("%+v %d comes, not %+v", x, err, l[0])
	}
	b, err := image.Parse(x.Data)
	a.Trip = 4
	if err != api.OK || whole(b) != whole(vm.Pack(a)) {
		t.Errorf("%+v %d comes, not %+v", b, err, vm.Pack(a))
	}
}

func TestJ1Own(t *testing.T) {
	for _, p := range []api.Place{{}, {Down: true}, busy(t), {Whom: []int{1}}, {Seen: []api.Seen{{Yes: true}}}, {Away: busy(t).Away}, {Agents: busy(t).Agents, Down: true}} {
		before := whole(p)
		same(t, "a copy", whole(Own(p)), before)
		same(t, "the place that is handed in", whole(p), before)
	}
}
