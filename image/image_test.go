package image

import (
	"bytes"
	"fmt"
	"math"
	"slices"
	"strings"
	"testing"

	"wanderstaff/api"
	"wanderstaff/code"
	"wanderstaff/scope"
	"wanderstaff/text"
	"wanderstaff/verify"
	"wanderstaff/vm"
	"wanderstaff/wire"
)

func num(n int) api.Value          { return api.Value{N: n} }
func txt(s string) api.Value       { return api.Value{Kind: api.ValText, Text: s} }
func ref(n int) api.Value          { return api.Value{Kind: api.ValCell, N: n} }
func pair(l, r api.Value) api.Cell { return api.Cell{Left: l, Right: r} }

// mustMake is the program of a text that is known to be right.
func mustMake(t *testing.T, s string) api.Program {
	t.Helper()
	l, err := text.Parse(s)
	if err != api.OK || scope.Check(l) != api.OK {
		t.Fatalf("%s is no program", s)
	}
	p, err := code.Make(l)
	if err != api.OK {
		t.Fatalf("%s: %d", s, err)
	}
	return p
}

// whole tells all of a; a list without entries is told as nil is.
func whole(a api.Agent) string { return fmt.Sprintf("%+v", a) }

func same(t *testing.T, what, got, want string) {
	t.Helper()
	if got != want {
		t.Errorf("%s:\n%s comes, not\n%s", what, got, want)
	}
}

// parses asks that the bytes are those of an agent.
func parses(t *testing.T, what string, b []byte, want api.Agent) {
	t.Helper()
	got, err := Parse(b)
	if err != api.OK {
		t.Errorf("%s: %d comes", what, err)
	}
	same(t, what, whole(got), whole(want))
}

// fails asks that so much is wrong with the bytes, and nothing comes beside it.
func fails(t *testing.T, what string, b []byte, want api.Errno) {
	t.Helper()
	got, err := Parse(b)
	if err != want {
		t.Errorf("%s: %d comes, not %d", what, err, want)
	}
	same(t, what, whole(got), whole(api.Agent{}))
}

// part is a number of an image, or bytes of a text behind how many they are.
type part struct {
	what string
	n    int
	raw  string
}

// parts is a as H1 names it, but for what is packed, and for the sum.
func parts(a api.Agent) (l []part) {
	num := func(what string, n int) { l = append(l, part{what: what, n: n}) }
	text := func(what, s string) {
		num(what, len(s))
		l = append(l, part{what: "raw", raw: s})
	}
	value := func(v api.Value) {
		num("kind", v.Kind)
		if v.Kind == 1 {
			text("text", v.Text)
		} else {
			num("value", v.N)
		}
	}
	values := func(what string, l []api.Value) {
		num(what, len(l))
		for _, v := range l {
			value(v)
		}
	}
	num("ID", a.ID)
	num("Trip", a.Trip)
	num("Fuel", a.Permit.Fuel)
	num("Cells", a.Permit.Cells)
	num("Hops", a.Permit.Hops)
	num("words", len(a.Program.Words))
	for _, s := range a.Program.Words {
		text("word", s)
	}
	num("codes", len(a.Program.Codes))
	for _, c := range a.Program.Codes {
		num("Params", c.Params)
		num("Vars", c.Vars)
		num("instrs", len(c.Instrs))
		for _, in := range c.Instrs {
			num("Op", in.Op)
			num("A", in.A)
			num("B", in.B)
		}
	}
	num("frames", len(a.Frames))
	for _, f := range a.Frames {
		num("Fn", f.Fn)
		num("At", f.At)
		values("vars", f.Vars)
		values("stack", f.Stack)
	}
	num("cells", len(a.Heap))
	for _, c := range a.Heap {
		value(c.Left)
		value(c.Right)
	}
	return l
}

// join is l as bytes, without a sum.
func join(l []part) (b []byte) {
	for _, p := range l {
		if p.what == "raw" {
			b = append(b, p.raw...)
		} else {
			b = wire.Num(b, p.n)
		}
	}
	return b
}

// seal is b with its sum behind it.
func seal(b []byte) []byte { return wire.Num(slices.Clip(b), wire.Sum(b)) }

func sealed(a api.Agent) []byte { return seal(join(parts(a))) }

// gone is an agent that is right, away, and packed: two frames, two cells, a value of each kind in each place.
func gone(t *testing.T) api.Agent {
	t.Helper()
	a := api.Agent{
		ID: 7, Trip: 70,
		Program: mustMake(t, "(main () (let x 1) (say (+ 5 (f 2 x))))(f (a b) (do 'cd') (return (cell a (go 'b'))))"),
		Frames: []api.Frame{
			{Fn: 0, At: 6, Vars: []api.Value{ref(0)}, Stack: []api.Value{num(-5)}},
			{Fn: 1, At: 5, Vars: []api.Value{txt("a\n'"), num(300)}, Stack: []api.Value{ref(1)}},
		},
		Heap:   []api.Cell{pair(txt(""), ref(0)), pair(ref(0), num(9))},
		Permit: api.Permit{Fuel: 100, Cells: 10, Hops: 2},
	}
	isRight(t, a)
	return a
}

func isRight(t *testing.T, a api.Agent) {
	t.Helper()
	if err := verify.Agent(a, true); err != api.OK {
		t.Fatalf("%d is wrong with %s", err, whole(a))
	}
}

// The bytes of one, written out.
func TestH1BytesWrittenOut(t *testing.T) {
	a, e := vm.Run(vm.New(1, mustMake(t, "(main () (do (go 'b')))"), api.Permit{Fuel: 66, Cells: 2, Hops: 1}), api.Spot{Name: "a"}, 9)
	if e != (api.Event{Kind: api.EvGo, Text: "b"}) {
		t.Fatalf("%+v comes", e)
	}
	want := []byte{
		2, 0, 0x80, 1, 4, 0, // ID, Trip, Fuel, Cells, Hops
		2, 2, 'b', // words
		2, 0, 0, 10, 4, 0, 0, 26, 0, 0, 38, 0, 0, 2, 0, 0, 36, 0, 0, // codes
		2, 0, 4, 0, 0, // frames
		0,                      // cells
		0xe2, 0xe3, 0xc0, 0x5f, // the sum
	}
	if got := Bytes(a); !bytes.Equal(got, want) {
		t.Errorf("% x comes, not % x", got, want)
	}
	parses(t, "written out", want, a)
}

func TestH1Bytes(t *testing.T) {
	a := gone(t)
	before := whole(a)
	b := Bytes(a)
	if !bytes.Equal(b, sealed(a)) {
		t.Errorf("% x comes, not % x", b, sealed(a))
	}
	parses(t, "there, and back", b, a)
	same(t, "the argument", whole(a), before)
	// some of it, written out: both frames, and the cells
	part := []byte{4, 0, 12, 2, 4, 0, 2, 0, 9, 2, 10, 4, 2, 6, 'a', '\n', '\'', 0, 0xd8, 4, 2, 4, 2, 4, 2, 0, 4, 0, 4, 0, 0, 18}
	if !bytes.Contains(b, part) {
		t.Errorf("% x has no % x", b, part)
	}
}

// What is packed has no cell that nobody names, and those that are named stand as they are come to.
func TestH1BytesArePacked(t *testing.T) {
	a := gone(t)
	a.Heap = []api.Cell{pair(num(1), ref(2)), pair(ref(3), num(9)), pair(num(2), num(2)), pair(txt(""), ref(3))}
	a.Frames[0].Vars[0], a.Frames[1].Stack[0] = ref(3), ref(1)
	isRight(t, a)
	before := whole(a)
	if b := Bytes(a); !bytes.Equal(b, Bytes(gone(t))) {
		t.Errorf("% x comes, not % x", b, Bytes(gone(t)))
	}
	same(t, "the argument", whole(a), before)
	parses(t, "packed", Bytes(a), gone(t))
	fails(t, "not packed", sealed(a), api.ErrForm)
	two := gone(t)
	two.Frames[0].Vars[0], two.Frames[1].Stack[0] = num(0), num(0)
	isRight(t, two)
	fails(t, "two cells that nobody names", sealed(two), api.ErrForm)
	parses(t, "packed there is none", Bytes(two), vm.Pack(two))
	two = gone(t)
	two.Frames[0].Vars[0], two.Frames[1].Stack[0], two.Heap[0], two.Heap[1] = ref(1), ref(0), two.Heap[1], two.Heap[0]
	two.Heap[0].Left, two.Heap[1].Right = ref(1), ref(1)
	isRight(t, two)
	fails(t, "two cells, the other way round", sealed(two), api.ErrForm)
	parses(t, "packed", Bytes(two), gone(t))
}

// full is as large as an agent may be that is right, away, and packed.
func full(t *testing.T) api.Agent {
	t.Helper()
	long := strings.Repeat("x", 60)
	eight := func(v api.Value) []api.Value { return slices.Repeat([]api.Value{v}, 8) }
	fill := func(l []api.Instr) []api.Instr {
		for len(l) < 200 {
			l = append(l, api.Instr{Op: api.OpReturn})
		}
		return l
	}
	begin := slices.Repeat([]api.Instr{{Op: api.OpHere}}, 15)
	begin = append(begin, api.Instr{Op: api.OpCall, A: 4})
	begin = append(begin, slices.Repeat([]api.Instr{{Op: api.OpPop}}, 15)...)
	again := []api.Instr{{Op: api.OpCall, A: 4}, {Op: api.OpPop}, {Op: api.OpHere}, {Op: api.OpGo}}
	number := []api.Instr{{Op: api.OpInt, A: -api.MaxInt}}
	a := api.Agent{
		ID: api.MaxInt, Trip: api.MaxInt, Permit: api.Permit{Fuel: api.MaxFuel, Hops: api.MaxHops},
		Program: api.Program{
			Words: slices.Repeat([]string{"twelve bytes"}, 16),
			Codes: []api.Code{{Vars: 8, Instrs: fill(begin)}, {Params: 4, Vars: 8, Instrs: fill(number)}, {Params: 1, Vars: 8, Instrs: fill(number)}, {Vars: 8, Instrs: fill(number)}, {Vars: 8, Instrs: fill(again)}},
		},
		Frames: []api.Frame{{At: 16, Vars: eight(ref(0)), Stack: slices.Repeat([]api.Value{txt(long)}, 15)}},
	}
	for range 11 {
		a.Frames = append(a.Frames, api.Frame{Fn: 4, At: 1, Vars: eight(num(-api.MaxInt))})
	}
	a.Frames[11].At = 4
	for i := range 60 {
		a.Heap = append(a.Heap, pair(txt(long), ref((i+1)%60)))
	}
	isRight(t, a)
	return a
}

func TestH1AsLargeAsMayBe(t *testing.T) {
	parses(t, "as large as may be", Bytes(full(t)), full(t))
	parses(t, "as large as may be", sealed(full(t)), full(t))
}

func TestH1AsSmallAsMayBe(t *testing.T) {
	a := api.Agent{Program: api.Program{Codes: []api.Code{{Instrs: []api.Instr{{Op: api.OpHere}, {Op: api.OpGo}, {Op: api.OpReturn}}}}}, Frames: []api.Frame{{At: 2}}}
	isRight(t, a)
	want := []byte{0, 0, 0, 0, 0, 0, 2, 0, 0, 6, 24, 0, 0, 26, 0, 0, 36, 0, 0, 2, 0, 4, 0, 0, 0}
	if b := Bytes(a); !bytes.Equal(b, seal(want)) {
		t.Errorf("% x comes, not % x", b, seal(want))
	}
	parses(t, "as small as may be", seal(want), a)
}

// One more than may be, of each.
func TestH1Much(t *testing.T) {
	rows := []struct {
		what string
		do   func(a *api.Agent)
	}{
		{"words", func(a *api.Agent) { a.Program.Words = append(a.Program.Words, "") }},
		{"codes", func(a *api.Agent) { a.Program.Codes = append(a.Program.Codes, a.Program.Codes[0]) }},
		{"instructions", func(a *api.Agent) { a.Program.Codes[4].Instrs = append(a.Program.Codes[4].Instrs, api.Instr{}) }},
		{"frames", func(a *api.Agent) { a.Frames = append(a.Frames, a.Frames[11]) }},
		{"variables", func(a *api.Agent) { a.Frames[11].Vars = append(a.Frames[11].Vars, num(0)) }},
		{"values", func(a *api.Agent) { a.Frames[11].Stack = make([]api.Value, 17) }},
		{"cells", func(a *api.Agent) { a.Heap = append(a.Heap, api.Cell{}) }},
		{"a word's bytes", func(a *api.Agent) { a.Program.Words[15] += "x" }},
		{"a variable's bytes", func(a *api.Agent) { a.Frames[11].Vars[7] = txt(strings.Repeat("x", 61)) }},
		{"a value's bytes", func(a *api.Agent) { a.Frames[0].Stack[14].Text += "x" }},
		{"a left one's bytes", func(a *api.Agent) { a.Heap[59].Left.Text += "x" }},
		{"a right one's bytes", func(a *api.Agent) { a.Heap[0].Right = txt(strings.Repeat("x", 61)) }},
	}
	for _, r := range rows {
		a := full(t)
		r.do(&a)
		fails(t, r.what, sealed(a), api.ErrMuch)
	}
	// so many may be read, but no agent that is away has them
	a := full(t)
	a.Frames[11].Stack = make([]api.Value, 16)
	fails(t, "16 values", sealed(a), api.ErrFit)
}

// mosts is how many there may be of what is counted.
func mosts() map[string]int {
	return map[string]int{"words": 16, "codes": 5, "instrs": 200, "frames": 12, "vars": 8, "stack": 16, "cells": 60, "word": 12, "text": 60}
}

// A number of parts that may not be is told where it stands, whatever is behind it.
func TestH1Counts(t *testing.T) {
	seen := map[string]int{}
	for _, a := range []api.Agent{gone(t), full(t)} {
		l := parts(a)
		for i, p := range l {
			most, counted := mosts()[p.what]
			if !counted || seen[p.what] > 3 {
				continue
			}
			seen[p.what]++
			for _, n := range []int{-1, -2, math.MinInt, most + 1, math.MaxInt} {
				l[i].n = n
				what := fmt.Sprintf("%d: %s are %d", i, p.what, n)
				fails(t, what, seal(join(l)), api.ErrMuch)
				fails(t, what+", at the end", join(l[:i+1]), api.ErrMuch)
				fails(t, what+", ahead of noughts that are needless", append(join(l[:i+1]), 0x80, 0), api.ErrMuch)
			}
			l[i].n = most
			fails(t, p.what+", as many as may be, and the end", join(l[:i+1]), api.ErrEnd)
			l[i] = p
		}
	}
	if len(seen) != len(mosts()) {
		t.Errorf("%v are counted", seen)
	}
}

// Each number is GetNum's: its errors are told where it stands.
func TestH1Numbers(t *testing.T) {
	l := parts(gone(t))
	l = append(l, part{what: "sum", n: wire.Sum(join(l))})
	for i, p := range l {
		if p.what == "raw" {
			continue
		}
		ahead, behind := join(l[:i]), join(l[i+1:])
		with := func(x ...byte) []byte { return slices.Concat(ahead, x, behind) }
		what := fmt.Sprintf("%d: %s", i, p.what)
		fails(t, what+" that has no end", ahead, api.ErrEnd)
		fails(t, what+" that has no end", slices.Concat(ahead, []byte{0x80}), api.ErrEnd)
		fails(t, what+" with a needless nought", with(0x81, 0), api.ErrForm)
		fails(t, what+" that is too long", with(0xff, 0xff, 0xff, 0xff, 0xff, 0xff, 0xff, 0xff, 0xff, 2), api.ErrRange)
	}
}

func TestH1CutOff(t *testing.T) {
	for _, a := range []api.Agent{gone(t), full(t)} {
		b := Bytes(a)
		for i := range b {
			if _, err := Parse(b[:i:i]); err != api.ErrEnd {
				t.Fatalf("%d of %d bytes: %d comes", i, len(b), err)
			}
		}
	}
}

func TestH1SomethingIsLeft(t *testing.T) {
	b := Bytes(gone(t))
	for _, more := range [][]byte{{0}, {0x80}, {0xff, 0}, b, make([]byte, 1<<20)} {
		fails(t, fmt.Sprintf("%d more", len(more)), slices.Concat(b, more), api.ErrForm)
	}
}

func TestH1Sum(t *testing.T) {
	a := gone(t)
	b := join(parts(a))
	sum := wire.Sum(b)
	parses(t, "its sum", wire.Num(slices.Clone(b), sum), a)
	for _, n := range []int{0, -1, sum + 1, sum - 1, -sum, sum ^ 1<<31, sum + 1<<32, sum - 1<<32, math.MaxInt, math.MinInt} {
		fails(t, "another sum", wire.Num(slices.Clone(b), n), api.ErrForm)
	}
	for i := range b {
		c := slices.Clone(b)
		c[i] ^= 2
		if _, err := Parse(wire.Num(c, sum)); err == api.OK {
			t.Errorf("byte %d is another one, and nothing is wrong", i)
		}
	}
}

// What may be is any agent's: with its own sum the bytes of another number are another agent.
func TestH1AnotherNumber(t *testing.T) {
	a := gone(t)
	a.ID, a.Trip, a.Frames[0].Stack[0], a.Frames[1].Vars[0], a.Program.Words[1] = 0, api.MaxInt, num(6), txt(""), ""
	parses(t, "others", sealed(a), a)
}

// What is wrong with an agent that is away is wrong with its bytes.
func TestH1Wrong(t *testing.T) {
	rows := []struct {
		what string
		want api.Errno
		do   func(a *api.Agent)
	}{
		{"here", api.ErrFit, func(a *api.Agent) { a.Frames[1].Stack = append(a.Frames[1].Stack, num(1)) }},
		{"about to begin", api.ErrFit, func(a *api.Agent) { a.Frames = []api.Frame{{Vars: []api.Value{num(0)}}}; a.Heap = nil }},
		{"ID", api.ErrRange, func(a *api.Agent) { a.ID = -1 }},
		{"Trip", api.ErrRange, func(a *api.Agent) { a.Trip = api.MaxInt + 1 }},
		{"Fuel", api.ErrRange, func(a *api.Agent) { a.Permit.Fuel = 2001 }},
		{"Cells", api.ErrRange, func(a *api.Agent) { a.Permit.Cells = -1 }},
		{"cells that may not be with so many more", api.ErrMuch, func(a *api.Agent) { a.Permit.Cells = 59 }},
		{"Hops", api.ErrRange, func(a *api.Agent) { a.Permit.Hops = math.MinInt }},
		{"no codes", api.ErrMany, func(a *api.Agent) { a.Program.Codes = nil }},
		{"a word", api.ErrName, func(a *api.Agent) { a.Program.Words[0] = "it's" }},
		{"Params of the first one", api.ErrFit, func(a *api.Agent) { a.Program.Codes[0].Params = 1 }},
		{"Params", api.ErrRange, func(a *api.Agent) { a.Program.Codes[1].Params = 5 }},
		{"Vars", api.ErrRange, func(a *api.Agent) { a.Program.Codes[1].Vars = 9 }},
		{"no instructions", api.ErrRange, func(a *api.Agent) { a.Program.Codes[1].Instrs = nil }},
		{"Op", api.ErrKind, func(a *api.Agent) { a.Program.Codes[1].Instrs[0].Op = 20 }},
		{"A", api.ErrRange, func(a *api.Agent) { a.Program.Codes[1].Instrs[0].A = 2 }},
		{"B", api.ErrRange, func(a *api.Agent) { a.Program.Codes[1].Instrs[0].B = 1 }},
		{"behind the last one", api.ErrEnd, func(a *api.Agent) { a.Program.Codes[1].Instrs = a.Program.Codes[1].Instrs[:6] }},
		{"no frames", api.ErrMany, func(a *api.Agent) { a.Frames = nil }},
		{"Fn", api.ErrRange, func(a *api.Agent) { a.Frames[0].Fn = -1 }},
		{"At", api.ErrRange, func(a *api.Agent) { a.Frames[1].At = 99 }},
		{"At of another one", api.ErrFit, func(a *api.Agent) { a.Frames[1].At = 4 }},
		{"a variable is missing", api.ErrRange, func(a *api.Agent) { a.Frames[1].Vars = a.Frames[1].Vars[:1] }},
		{"a value is missing", api.ErrFit, func(a *api.Agent) { a.Frames[0].Stack = nil }},
		{"a number", api.ErrRange, func(a *api.Agent) { a.Frames[0].Stack[0].N = api.MaxInt + 1 }},
		{"a cell of a variable", api.ErrNone, func(a *api.Agent) { a.Frames[0].Vars[0].N = 2 }},
		{"a cell of a cell", api.ErrNone, func(a *api.Agent) { a.Heap[1].Left.N = -1 }},
		{"no cells", api.ErrNone, func(a *api.Agent) { a.Heap = nil }},
	}
	for _, r := range rows {
		a := gone(t)
		r.do(&a)
		fails(t, r.what, sealed(a), r.want)
	}
}

// Behind a kind that there is not a number is read; then it is ErrKind.
func TestH1Kinds(t *testing.T) {
	for _, kind := range []int{-1, 3, 4, math.MaxInt, math.MinInt} {
		for _, n := range []int{0, 1, -7, 1 << 40} {
			v := api.Value{Kind: kind, N: n}
			for i, to := range []func(a *api.Agent) *api.Value{
				func(a *api.Agent) *api.Value { return &a.Frames[0].Vars[0] }, func(a *api.Agent) *api.Value { return &a.Frames[1].Stack[0] },
				func(a *api.Agent) *api.Value { return &a.Heap[0].Left }, func(a *api.Agent) *api.Value { return &a.Heap[1].Right },
			} {
				a := gone(t)
				*to(&a) = v
				fails(t, fmt.Sprintf("%d: %+v", i, v), sealed(a), api.ErrKind)
			}
		}
	}
}

// Of several errors the first one is told: each has one error less than the one above it.
func TestH1Turn(t *testing.T) {
	a := full(t)
	a.ID, a.Program.Words[0], a.Frames[0].At, a.Frames[1].Vars[0] = -1, "'", 200, api.Value{Kind: 7}
	a.Heap[0].Right = ref(1)
	a.Heap[1].Right = ref(0)
	l := parts(a)
	for i, p := range l {
		switch {
		case p.what == "words":
			l[i].n = 17
		case p.what == "codes":
			l[i].n = -1
		}
	}
	much := join(l)
	cut := func(b []byte) []byte { return b[:len(b)-1] }
	fails(t, "a number ahead of what may not be", slices.Concat([]byte{0x80, 0}, much), api.ErrForm)
	fails(t, "too many words", cut(much), api.ErrMuch)
	a.Program.Words[0] = "thirteen byte"
	fails(t, "a word that is too long", cut(join(parts(a))), api.ErrMuch)
	a.Program.Words[0] = "'"
	fails(t, "the end", cut(join(parts(a))), api.ErrEnd)
	left := append(wire.Num(join(parts(a)), 1), 0)
	fails(t, "something is left", left, api.ErrForm)
	fails(t, "the program", cut(left), api.ErrName)
	wrong := func() []byte { return wire.Num(join(parts(a)), 1) }
	a.Program.Words[0] = ""
	fails(t, "a number", wrong(), api.ErrRange)
	a.ID = 0
	fails(t, "a frame", wrong(), api.ErrRange)
	a.Frames[0].At = 15
	fails(t, "a frame's call", wrong(), api.ErrFit)
	a.Frames[0].At = 16
	fails(t, "a value", wrong(), api.ErrKind)
	a.Frames[1].Vars[0] = num(0)
	fails(t, "its bytes", wrong(), api.ErrForm)
	fails(t, "its cells", sealed(a), api.ErrForm)
	parses(t, "nothing", Bytes(a), vm.Pack(a))
}
