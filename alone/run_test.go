package alone

import (
	"fmt"
	"math"
	"slices"
	"strings"
	"testing"

	"wanderstaff/api"
	"wanderstaff/verify"
)

// ran is a program that begins at a place of l (three, if none are told), and what must come of it, as told has it.
type ran struct {
	what   string
	s      string
	permit api.Permit
	l      []api.Spot
	at     int
	want   string
}

// told tells what came: what was said, ahead of the end.
func told(said []string, end api.End, err api.Errno) string {
	switch {
	case err != api.OK && len(said) == 0 && end == api.End{}:
		return fmt.Sprintf("error %d", err)
	case err == api.OK && end == api.End{Text: end.Text}:
		return fmt.Sprintf("%q: %s", said, end.Text)
	case err == api.OK && end == api.End{Err: end.Err}:
		return fmt.Sprintf("%q: dead %d", said, end.Err)
	}
	return fmt.Sprintf("%q %+v %d", said, end, err)
}

func dead(err api.Errno) string { return fmt.Sprintf("dead %d", err) }

// plenty is more than those need that are not about permits.
func plenty() api.Permit { return api.Permit{Fuel: 250, Cells: 9, Hops: 5} }

func runsAre(t *testing.T, rows []ran) {
	t.Helper()
	for _, r := range rows {
		if r.l == nil {
			r.l = three()
		}
		runIs(t, r.what, mustMake(t, r.s), r)
	}
}

// runIs also fails if the program or the places change.
func runIs(t *testing.T, what string, p api.Program, r ran) {
	t.Helper()
	if err := verify.Program(p); err != api.OK {
		t.Fatalf("%s: %d is wrong with the program", what, err)
	}
	before := fmt.Sprintf("%+v %+v", p, r.l)
	if got := told(Run(p, r.permit, r.l, r.at)); got != r.want {
		t.Errorf("%s, %s at %d: %s comes, not %s", what, r.s, r.at, got, r.want)
	}
	if after := fmt.Sprintf("%+v %+v", p, r.l); after != before {
		t.Errorf("%s: %s has become %s", what, before, after)
	}
}

func TestI2Going(t *testing.T) {
	runsAre(t, []ran{
		{"the document's example", "(main () (say (go 'b')) (say (here)) (return 7))", plenty(), nil, 0, `["1" "b"]: 7`},
		{"nobody goes", "(main () (say 3) (say 'x'))", plenty(), nil, 2, `["3" "x"]: 0`},
		{"nothing is said", "(main ())", plenty(), nil, 0, `[]: 0`},
		{"nothing comes of it but a text without bytes", "(main () (say '') (return ''))", plenty(), nil, 0, `[""]: `},
		{"where it begins", "(main () (return (here)))", plenty(), nil, 1, `[]: b`},
		{"what each place knows", "(main () (let n (ask 'price')) (do (go 'b')) (set n (+ n (ask 'price'))) (do (go 'c')) (say (ask 'price')) (say n) (return (here)))",
			plenty(), nil, 0, `["0" "12"]: c`},
		{"there, and back", "(main () (say (go 'b')) (say (go 'a')) (say (ask 'price')) (say (go 'c')) (say (go 'b')) (return (here)))", plenty(), nil, 0, `["1" "1" "5" "1" "1"]: b`},
		{"in the midst of calls", "(main () (say (down 3)) (return (here)))(down (n) (if (= n 0) ((do (go 'b')) (return 'end')) ()) (return (cell n (down (- n 1)))))", plenty(), nil, 0,
			`["(3 (2 (1 end)))"]: b`},
		{"in the midst of an expression", "(main () (let x 4) (return (+ (* x 10) (+ (go 'c') (* x 100)))))", plenty(), nil, 0, `[]: 441`},
		{"with cells that are one", "(main () (let x (cell 1 'a')) (let y (cell x x)) (putr x y) (do (go 'c')) (putl (left y) 7) (say y) (say (= (left y) (right y))) (return x))", plenty(), nil, 0,
			`["((7 ((7 ..) (7 ..))) (7 ((7 ..) (7 ..))))" "1"]: (7 ((7 (.. ..)) (7 (.. ..))))`},
		{"to where a text leads", "(main () (do (go (ask 'next'))) (do (go (ask 'next'))) (say (go (ask 'next'))) (return (here)))", plenty(),
			[]api.Spot{{Name: "x", Facts: fact("next", txt("y")), Fuel: 99}, {Name: "y", Facts: fact("next", txt("twelve bytes")), Fuel: 99}, {Name: "twelve bytes", Fuel: 99}}, 0, dead0(api.ErrType)},
	})
}

// dead0 is who died ahead of saying anything.
func dead0(err api.Errno) string { return "[]: " + dead(err) }

func TestI2Staying(t *testing.T) {
	p := plenty()
	hops := func(n int) api.Permit { p := plenty(); p.Hops = n; return p }
	low := []api.Spot{{Name: "a", Fuel: 0, Cells: 0}, {Name: "b", Fuel: 20, Cells: 1}, {Name: "c", Fuel: 2000, Cells: 60}}
	runsAre(t, []ran{
		{"there is no such place", "(main () (say (go 'z')) (return (here)))", p, nil, 1, `["0"]: b`},
		{"nor one without a name", "(main () (say (go '')) (return (here)))", p, nil, 1, `["0"]: b`},
		{"nor one of other letters", "(main () (say (go 'A')) (say (go 'a ')) (return (here)))", p, nil, 1, `["0" "0"]: b`},
		{"it is there", "(main () (say (go 'b')) (say (go (here))) (return (here)))", p, nil, 1, `["0" "0"]: b`},
		{"it is there now", "(main () (say (go 'b')) (say (go 'b')) (return (here)))", p, nil, 0, `["1" "0"]: b`},
		{"to no text", "(main () (say (go 'z')) (say (go 5)))", p, nil, 0, `["0"]: ` + dead(api.ErrType)},
		{"no hops", "(main () (say (go 'b')) (return (here)))", hops(0), nil, 0, `["0"]: a`},
		{"one hop", "(main () (say (go 'b')) (say (go 'a')) (return (here)))", hops(1), nil, 0, `["1" "0"]: b`},
		{"five hops", "(main () (let n 0) (while (< n 3) (say (go 'b')) (say (go 'a')) (set n (+ n 1))) (return (here)))", p, nil, 0, `["1" "1" "1" "1" "1" "0"]: b`},
		{"who stays has lost its hop as well", "(main () (say (go 'z')) (say (go 'a')) (say (go 'b')) (return (here)))", hops(2), nil, 0, `["0" "0" "0"]: a`},
		{"who has too much", "(main () (let x (cell 1 (cell 2 3))) (say (go 'b')) (set x (right x)) (say (go 'b')) (return (cell (here) x)))", p, low, 2, `["0" "1"]: (b (2 3))`},
		{"where no cell may be", "(main () (let x (cell 1 2)) (say (go 'a')) (say (go 'b')) (return (here)))", p, low, 2, `["0" "1"]: b`},
		// neither name nor bounds of where it stays are asked of it
		{"who stays keeps its fuel", "(main () (say (go 'z')) (say (go 'a')) (say (here)) (return 1))", p, low, 0, `["0" "0" "a"]: 1`},
		{"who begins keeps its fuel, and cells", "(main () (let x (cell 1 2)) (say (cell x x)) (return (here)))", p, low, 0, `["((1 2) (1 2))"]: a`},
	})
}

// What somebody holds in the midst of a call counts as well, wherever it lies; what nobody holds does not.
func TestI2CellsThatCount(t *testing.T) {
	l := []api.Spot{{Name: "a", Fuel: 2000, Cells: 60}, {Name: "b", Fuel: 2000, Cells: 2}}
	p := api.Permit{Fuel: 2000, Cells: 60, Hops: 12}
	runsAre(t, []ran{
		{"two lie in the stack", "(main () (return (cell (cell (cell 1 2) (cell 3 4)) (go 'b'))))", p, l, 0, "[]: (((1 2) (3 4)) 0)"},
		{"one lies in the stack, with one", "(main () (return (cell (cell (cell 1 2) 3) (go 'b'))))", p, l, 0, "[]: (((1 2) 3) 1)"},
		{"in a call that waits", "(main () (let x (cell 1 2)) (say (cell (cell 3 4) (f (cell 5 6)))))(f (y) (return (go 'b')))", p, l, 0, `["((3 4) 0)"]: 0`},
		{"in a call that is over", "(main () (let x (cell 1 2)) (do (f (cell 5 6))) (say (cell (cell 3 4) (go 'b'))))(f (y) (return y))", p, l, 0, `["((3 4) 1)"]: 0`},
		{"in a variable of a block that is over", "(main () (if 1 ((let x (cell 1 (cell 2 (cell 3 4))))) ()) (say (go 'b')))", p, l, 0, `["0"]: 0`},
		{"two, many times", "(main () (let x (cell 1 2)) (let y (cell x x)) (putl x y) (say (cell (cell x y) 7)) (say (go 'b')) (return (= (left x) y)))", p, l, 0, `["((((.. ..) 2) ((.. 2) (.. 2))) 7)" "1"]: 1`},
		{"a circle that nobody names", "(main () (let x (cell 1 (cell 2 (cell 3 4)))) (putr (right (right x)) x) (set x 0) (say (go 'b')))", p, l, 0, `["1"]: 0`},
	})
}

// Nothing is free: neither going nor coming back gives fuel, cells or hops.
func TestI2NothingIsFree(t *testing.T) {
	l := func(fuel int) []api.Spot {
		return []api.Spot{{Name: "a", Fuel: 2000, Cells: 60}, {Name: "b", Fuel: fuel, Cells: 0}}
	}
	loop := "(main () (do (go 'b')) (do (go 'a')) (while 1 (say 1)))"
	ones := func(n int) string {
		return fmt.Sprintf("%q: %s", slices.Repeat([]string{"1"}, n), dead(api.ErrFuel))
	}
	most := api.Permit{Fuel: 2000, Cells: 60, Hops: 12}
	cells := "(main () (say (cell 1 2)) (say (go 'b')) (say (cell 3 4)) (say (go 'a')) (say (cell 5 6)))"
	runsAre(t, []ran{
		// 4 steps there, and a round of 5 says one thing, at its fourth step
		{"fuel of b", loop, most, l(43), 0, ones(8)},
		{"fuel of b", loop, most, l(42), 0, ones(7)},
		{"fuel of b is less", loop, api.Permit{Fuel: 50, Hops: 2}, l(24), 0, ones(4)},
		{"fuel of b is more", loop, api.Permit{Fuel: 27, Hops: 2}, l(24), 0, ones(4)},
		{"fuel of b is as much as there is", loop, api.Permit{Fuel: 26, Hops: 2}, l(24), 0, ones(4)},
		{"there is less", loop, api.Permit{Fuel: 24, Hops: 2}, l(24), 0, ones(3)},
		{"b has no fuel", "(main () (say (go 'b')))", most, l(0), 0, dead0(api.ErrFuel)},
		{"b has fuel for one step", "(main () (say (go 'b')) (say 2))", most, l(1), 0, `["1"]: ` + dead(api.ErrFuel)},
		{"as many cells as may be", cells, api.Permit{Fuel: 99, Cells: 3, Hops: 2}, l(99), 0, `["(1 2)" "1" "(3 4)" "1" "(5 6)"]: 0`},
		{"cells that are gone don't come again", cells, api.Permit{Fuel: 99, Cells: 2, Hops: 2}, l(99), 0, `["(1 2)" "1" "(3 4)" "1"]: ` + dead(api.ErrFull)},
	})
}

func TestI2Ends(t *testing.T) {
	p := plenty()
	runsAre(t, []ran{
		{"of no cell", "(main () (say 'x') (say (left 5)) (say 'y'))", p, nil, 0, `["x"]: ` + dead(api.ErrType)},
		{"of another kind", "(main () (say (* 'a' 2)))", p, nil, 0, dead0(api.ErrType)},
		{"too deep", "(main () (say 1) (do (f 1)))(f (x) (do (f x)))", p, nil, 0, `["1"]: ` + dead(api.ErrDeep)},
		{"too many cells", "(main () (let x 0) (while 1 (set x (cell x x))))", p, nil, 0, dead0(api.ErrFull)},
		{"no permit", "(main () (say 1))", api.Permit{}, nil, 0, dead0(api.ErrFuel)},
		// (say 1), and two steps more at the end
		{"as much fuel as it needs", "(main () (say 1))", api.Permit{Fuel: 4}, nil, 0, `["1"]: 0`},
		{"less", "(main () (say 1))", api.Permit{Fuel: 3}, nil, 0, `["1"]: ` + dead(api.ErrFuel)},
		{"less", "(main () (say 1))", api.Permit{Fuel: 2}, nil, 0, `["1"]: ` + dead(api.ErrFuel)},
		{"less", "(main () (say 1))", api.Permit{Fuel: 1}, nil, 0, dead0(api.ErrFuel)},
		{"without end, as long as may be", "(main () (while 1 (do 'x')))", api.Permit{Fuel: 2000}, nil, 0, dead0(api.ErrFuel)},
		{"as long as may be, and done", "(main () (let n 0) (while (< n 181) (set n (+ n 1))) (return n))", api.Permit{Fuel: 2000}, nil, 0, `[]: 181`},
		{"dead elsewhere", "(main () (do (go 'b')) (say (here)) (do (+ 'a' (cell 1 2))))", p, nil, 0, `["b"]: ` + dead(api.ErrType)},
	})
}

// So deep: 4, and a text is told as it is, as long as may be.
func TestI2Told(t *testing.T) {
	deep := "(main () (let x (cell 1 (cell 2 (cell 3 (cell 4 (cell 5 6)))))) (say x) (do (go 'a')) (return x))"
	long := "(main () (let x 'twelve bytes') (set x (+ x x)) (set x (+ x x)) (set x (+ x x)) (say x) (return x))"
	sixty := strings.Repeat("twelve bytes", 5)
	runsAre(t, []ran{
		{"deep", deep, plenty(), nil, 1, `["(1 (2 (3 (4 ..))))"]: (1 (2 (3 (4 ..))))`},
		{"long", long, plenty(), nil, 0, fmt.Sprintf("[%q]: %s", sixty, sixty)},
	})
}

func TestI2Wrong(t *testing.T) {
	s, p := "(main () (say 1))", plenty()
	much := api.Permit{Fuel: 2001}
	five := make([]api.Spot, 5)
	nameless := append(three(), api.Spot{})
	odd := append(three(), api.Spot{Name: "d", Facts: fact("", ref(0))})
	e := func(err api.Errno) string { return fmt.Sprintf("error %d", err) }
	runsAre(t, []ran{
		{"no places", s, p, []api.Spot{}, 0, e(api.ErrMany)},
		{"too many places", s, p, five, 0, e(api.ErrMany)},
		{"a place without a name", s, p, nameless, 0, e(api.ErrName)},
		{"a place with too much fuel", s, p, []api.Spot{{Name: "a"}, {Name: "b", Fuel: 2001}}, 0, e(api.ErrRange)},
		{"a fact of another kind", s, p, odd, 0, e(api.ErrType)},
		{"too much fuel", s, much, nil, 0, e(api.ErrRange)},
		{"too many cells", s, api.Permit{Fuel: 9, Cells: 61}, nil, 0, e(api.ErrRange)},
		{"too few hops", s, api.Permit{Fuel: 9, Hops: -1}, nil, 0, e(api.ErrRange)},
		{"no place", s, p, nil, -1, e(api.ErrNone)},
		{"no place", s, p, nil, 3, e(api.ErrNone)},
		{"no place", s, p, nil, math.MinInt, e(api.ErrNone)},
		{"no place", s, p, nil, math.MaxInt, e(api.ErrNone)},
		{"the last place", s, p, nil, 2, `["1"]: 0`},
		{"the only place", s, p, []api.Spot{{Name: "a"}}, 0, `["1"]: 0`},
		{"no other place", s, p, []api.Spot{{Name: "a"}}, 1, e(api.ErrNone)},
		// in turn
		{"places, permit, and no place", s, much, nameless, -1, e(api.ErrName)},
		{"places, and no place", s, p, []api.Spot{}, 0, e(api.ErrMany)},
		{"permit, and no place", s, much, nil, 3, e(api.ErrRange)},
	})
	runIs(t, "nil", mustMake(t, s), ran{s: s, permit: p, want: e(api.ErrMany)})
}

// A program that no text makes is one too: here it goes with values below that no statement leaves there.
func TestI2OfCode(t *testing.T) {
	in := func(op int, a ...int) api.Instr {
		i := api.Instr{Op: op}
		if len(a) > 0 {
			i.A = a[0]
		}
		return i
	}
	p := api.Program{Words: []string{"b"}, Codes: []api.Code{{Instrs: []api.Instr{
		in(api.OpInt, 5), in(api.OpInt, 6), in(api.OpText, 0), in(api.OpGo), in(api.OpSay), in(api.OpHere), in(api.OpCell), in(api.OpCell), in(api.OpReturn),
	}}}}
	runIs(t, "values below", p, ran{permit: plenty(), l: three(), want: `["1"]: (5 (6 b))`})
	runIs(t, "and it stays", p, ran{permit: plenty(), l: three(), at: 1, want: `["0"]: (5 (6 b))`})
}
