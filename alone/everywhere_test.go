package alone

import (
	"fmt"
	"math"
	"reflect"
	"slices"
	"strings"
	"testing"

	"wanderstaff/api"
	"wanderstaff/vm"
)

// odds are numbers at, and far beyond, all bounds.
func odds() []int { return []int{math.MinInt, -1 << 40, -1, 0, 1, 61, 2001, 1 << 40, math.MaxInt} }

// Whatever places, permits and numbers are handed in, nothing panics.
func TestZ1AnyPlaces(t *testing.T) {
	long := strings.Repeat("x", 1000)
	for _, n := range odds() {
		for _, s := range []api.Spot{
			{Name: long, Fuel: n, Cells: n, Facts: make([]api.Fact, 99)},
			{Name: "b", Fuel: n, Cells: 60 - n, Facts: []api.Fact{{Key: long, Value: api.Value{Kind: n, N: n, Text: long}}}},
			{Name: "b", Facts: []api.Fact{{Value: api.Value{Kind: api.ValCell, N: n}}}, Fuel: n, Cells: 2},
		} {
			l := []api.Spot{{Name: "a"}, s}
			want, wantAt := slowWrong(l)
			wrongIs(t, "odd", l, want, wantAt)
			wrongIs(t, "odd, many times", slices.Repeat(l, 50), api.ErrMany, -1)
			Find(l, long)
			letAny(t, s)
		}
		for _, m := range odds() {
			p := api.Permit{Fuel: n, Cells: m, Hops: n}
			said, end, err := Run(quiet(), p, three(), n)
			if want := Permit(p); want != api.OK && (err != want || said != nil || end != api.End{}) {
				t.Errorf("%+v at %d: %q %+v %d comes, not %d", p, n, said, end, err, want)
			}
		}
	}
}

// letAny has gone come to any place, as its Fuel and Cells have it, whatever else is wrong with it.
func letAny(t *testing.T, s api.Spot) {
	t.Helper()
	if s.Cells < 2 {
		letIs(t, fmt.Sprint(s.Fuel, s.Cells), gone(t), s, api.Agent{}, false)
		return
	}
	want := come(t, 100)
	want.Permit.Fuel = min(100, s.Fuel)
	letIs(t, fmt.Sprint(s.Fuel, s.Cells), gone(t), s, want, true)
}

// spoil writes over all that a holds, the spare room behind its lists too.
func spoil(a api.Agent) {
	for _, c := range a.Program.Codes[:cap(a.Program.Codes)] {
		fill(c.Instrs, api.Instr{Op: 77, A: 77, B: 77})
	}
	for _, f := range a.Frames[:cap(a.Frames)] {
		fill(f.Vars, api.Value{Kind: 77})
		fill(f.Stack, api.Value{Kind: 77})
	}
	fill(a.Program.Codes, api.Code{Params: 77})
	fill(a.Program.Words, "spoilt")
	fill(a.Frames, api.Frame{Fn: 77})
	fill(a.Heap, api.Cell{Left: api.Value{Kind: 77}})
}

func fill[T any](l []T, x T) {
	l = l[:cap(l)]
	for i := range l {
		l[i] = x
	}
}

// Who is let in is the caller's: neither does the argument hang on it, nor it on the argument.
func TestZ2Let(t *testing.T) {
	s := three()[0]
	a := gone(t)
	b, _ := Let(a, s)
	spoil(b)
	if got := whole(a); got != whole(gone(t)) {
		t.Errorf("the argument has become %s", got)
	}
	b, _ = Let(a, s)
	spoil(a)
	if got := whole(b); got != whole(come(t, 100)) {
		t.Errorf("the answer has become %s", got)
	}
	for i := range b.Frames {
		for _, l := range []*[]api.Value{&b.Frames[i].Vars, &b.Frames[i].Stack} {
			old := slices.Clone(*l)
			fill(*l, num(77))
			copy(*l, old)
			if got := whole(b); got != whole(come(t, 100)) {
				t.Errorf("a list shares its room: %s", got)
			}
		}
	}
}

// What was said is the caller's, and nothing of places or programs is kept.
func TestZ2Run(t *testing.T) {
	s := "(main () (say (go 'b')) (say (ask 'price')) (say 'x') (return (here)))"
	p, l := mustMake(t, s), three()
	said, end, _ := Run(p, plenty(), l, 0)
	spoil(api.Agent{Program: p})
	fill(l[1].Facts, api.Fact{Key: "spoilt"})
	fill(l, api.Spot{Name: "spoilt"})
	want := `["1" "7" "x"]: b`
	if got := told(said, end, api.OK); got != want {
		t.Errorf("%s comes, not %s", got, want)
	}
	p, l = mustMake(t, s), three()
	fill(said, "spoilt")
	if got := told(Run(p, plenty(), l, 0)); got != want {
		t.Errorf("%s comes, not %s", got, want)
	}
}

// roomy is l, with x three times in its spare room.
func roomy[T any](l []T, x T) []T { return slices.Concat(l, []T{x, x, x})[:len(l)] }

// The spare room behind lists is neither looked at nor changed.
func TestZ2SpareRoom(t *testing.T) {
	spare := api.Spot{Name: "z", Fuel: -1, Facts: fact("z", ref(0))}
	l := roomy(three(), spare)
	for i, s := range l {
		l[i].Facts = roomy(s.Facts, api.Fact{Key: "none", Value: ref(0)})
	}
	p := mustMake(t, "(main () (say (go 'b')) (say (go 'z')) (return (ask 'none')))")
	p.Words, p.Codes = roomy(p.Words, "spare"), roomy(p.Codes, api.Code{Vars: 9})
	p.Codes[0].Instrs = roomy(p.Codes[0].Instrs, api.Instr{Op: 77})
	all := func() string {
		out := fmt.Sprintf("%+v %+v %+v %+v", l[:6], p.Words[:6], p.Codes[:4], p.Codes[0].Instrs[:len(p.Codes[0].Instrs)+3])
		for _, s := range l {
			out += fmt.Sprintf("%+v", s.Facts[:len(s.Facts)+3])
		}
		return out
	}
	before := all()
	wrongIs(t, "spare room", l, api.OK, -1)
	if i := Find(l, "z"); i != -1 {
		t.Errorf("%d comes", i)
	}
	if got := told(Run(p, plenty(), l, 0)); got != `["1" "0"]: 0` {
		t.Errorf("%s comes", got)
	}
	if after := all(); after != before {
		t.Errorf("%s has become %s", before, after)
	}
	odd := api.Value{Kind: 9, N: 9, Text: "spare"}
	a := gone(t)
	a.Heap, a.Frames = roomy(a.Heap, pair(odd, odd)), roomy(a.Frames, api.Frame{Fn: 9})
	for i, f := range a.Frames {
		a.Frames[i].Vars, a.Frames[i].Stack = roomy(f.Vars, odd), roomy(f.Stack, odd)
	}
	letIs(t, "spare room", a, api.Spot{Fuel: 300, Cells: 2}, come(t, 100), true)
	if got := []any{a.Heap[3:6], a.Frames[2:5], a.Frames[1].Stack[1:4]}; !reflect.DeepEqual(got, []any{slices.Repeat([]api.Cell{pair(odd, odd)}, 3), slices.Repeat([]api.Frame{{Fn: 9}}, 3), slices.Repeat([]api.Value{odd}, 3)}) {
		t.Errorf("the spare room has become %+v", got)
	}
}

// nil and a list without entries are the same.
func TestZ3NoEntries(t *testing.T) {
	p := mustMake(t, "(main () (do (f)) (say (here)))(f () (return (go (here))))")
	a, _ := vm.Run(vm.New(1, p, plenty()), api.Spot{Name: "b"}, 99)
	want, _ := Let(a, api.Spot{})
	for _, empty := range []bool{false, true} {
		l := []api.Spot{{Name: "a"}, {Name: "b"}}
		if empty {
			p.Words, a.Program.Words, a.Heap = []string{}, []string{}, []api.Cell{}
			l[0].Facts, l[1].Facts = []api.Fact{}, []api.Fact{}
			for i := range a.Frames {
				a.Frames[i].Vars, a.Frames[i].Stack = []api.Value{}, []api.Value{}
			}
		} else {
			p.Words, a.Program.Words, a.Heap = nil, nil, nil
			for i := range a.Frames {
				a.Frames[i].Vars, a.Frames[i].Stack = nil, nil
			}
		}
		wrongIs(t, "no facts", l, api.OK, -1)
		if got := told(Run(p, plenty(), l, 1)); got != `["b"]: 0` {
			t.Errorf("%s comes", got)
		}
		letIs(t, "no entries", a, api.Spot{}, want, true)
	}
}
