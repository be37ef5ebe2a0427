package image

import (
	"bytes"
	"fmt"
	"math"
	"math/rand"
	"slices"
	"testing"

	"wanderstaff/api"
	"wanderstaff/verify"
	"wanderstaff/vm"
	"wanderstaff/wire"
)

// slowParse is a second reading of H1: the first error ends it at once, the sum is worked out, and cells are looked at one by one.
func slowParse(b []byte) (a api.Agent, err api.Errno) {
	defer func() {
		if x := recover(); x != nil {
			a, err = api.Agent{}, x.(api.Errno)
		}
	}()
	at := 0
	must := func(err api.Errno) {
		if err != api.OK {
			panic(err)
		}
	}
	num := func() int {
		n, k, err := wire.GetNum(b[at:])
		must(err)
		at += k
		return n
	}
	text := func(most int) string {
		s, k, err := wire.GetText(b[at:], most)
		must(err)
		at += k
		return s
	}
	each := func(most int, do func()) {
		n := num()
		if n < 0 || n > most {
			must(api.ErrMuch)
		}
		for range n {
			do()
		}
	}
	value := func() api.Value {
		kind := num()
		if kind == 1 {
			return api.Value{Kind: 1, Text: text(60)}
		}
		return api.Value{Kind: kind, N: num()}
	}
	for _, to := range []*int{&a.ID, &a.Trip, &a.Permit.Fuel, &a.Permit.Cells, &a.Permit.Hops} {
		*to = num()
	}
	each(16, func() { a.Program.Words = append(a.Program.Words, text(12)) })
	each(5, func() {
		c := api.Code{Params: num()}
		c.Vars = num()
		each(200, func() {
			in := api.Instr{Op: num()}
			in.A = num()
			in.B = num()
			c.Instrs = append(c.Instrs, in)
		})
		a.Program.Codes = append(a.Program.Codes, c)
	})
	each(12, func() {
		f := api.Frame{Fn: num()}
		f.At = num()
		each(8, func() { f.Vars = append(f.Vars, value()) })
		each(16, func() { f.Stack = append(f.Stack, value()) })
		a.Frames = append(a.Frames, f)
	})
	each(60, func() {
		c := api.Cell{Left: value()}
		c.Right = value()
		a.Heap = append(a.Heap, c)
	})
	want := wire.Sum(b[:at])
	sum := num()
	if at < len(b) {
		must(api.ErrForm)
	}
	must(verify.Agent(a, true))
	if sum != want || !isPacked(a) {
		must(api.ErrForm)
	}
	return a, api.OK
}

// isPacked tells whether the cells of a are come to in turn, and all of them are: a new one is always the next one.
func isPacked(a api.Agent) bool {
	known, looked, ok := 0, 0, true
	come := func(v api.Value) {
		if v.Kind == api.ValCell && v.N >= known {
			ok = ok && v.N == known
			known++
		}
	}
	for _, f := range a.Frames {
		for _, v := range slices.Concat(f.Vars, f.Stack) {
			come(v)
			for ; ok && looked < known; looked++ {
				come(a.Heap[looked].Left)
				come(a.Heap[looked].Right)
			}
		}
	}
	return ok && known == len(a.Heap)
}

// traveller makes agents that are right, and away.
type traveller struct{ r *rand.Rand }

func (w *traveller) value(cells int) api.Value {
	if cells > 0 && w.r.Intn(2) == 0 {
		return ref(w.r.Intn(cells))
	}
	return []api.Value{num(0), num(1), num(-64), num(1 << 30), num(-1 << 30), txt(""), txt("a"), txt("long\n\xff'")}[w.r.Intn(8)]
}

// upset has other values, cells and numbers in a, which stays right; mostly it is not packed any more.
func (w *traveller) upset(a api.Agent) api.Agent {
	a = vm.Own(a)
	a.ID, a.Trip = w.r.Intn(100), w.r.Intn(1<<30)
	for range w.r.Intn(4) {
		a.Heap = append(a.Heap, api.Cell{})
	}
	for i := range a.Heap {
		if w.r.Intn(2) == 0 {
			a.Heap[i] = pair(w.value(len(a.Heap)), w.value(len(a.Heap)))
		}
	}
	for _, f := range a.Frames {
		for _, l := range [][]api.Value{f.Vars, f.Stack} {
			for i := range l {
				if w.r.Intn(2) == 0 {
					l[i] = w.value(len(a.Heap))
				}
			}
		}
	}
	a.Permit.Cells = w.r.Intn(61 - len(a.Heap))
	return a
}

func texts() []string {
	return []string{
		"(main () (do (go 'b')))",
		"(main () (let n (ask 'price')) (do (go 'b')) (set n (+ n (ask 'price'))) (say n) (return (here)))",
		"(main () (let x (cell 1 'a')) (let y (cell x x)) (putr x y) (do (go 'c')) (putl (left y) 7) (say y) (do (go '')) (say (= (left y) (right y))))",
		"(main () (say (down 5)))(down (n) (if (= n 0) ((do (go 'b')) (return 'end')) ()) (return (cell n (down (- n 1)))))",
		"(main () (let n 0) (while (< n 5) (say (go (here))) (say (go 'twelve bytes')) (set n (+ n 1))))",
		"(main () (let c (f 1 'two' (cell 3 4) 5)) (say (cell 'x' (cell c (go 'b')))))(f (a b c d) (let e (cell a b)) (let g (cell 0 0)) (putl c e) (return (g (cell c d) (+ 'b' ''))))(g (a b) (do (cell a (cell b (go b)))) (return a))",
		"(main () (say (a 9)))(a (n) (return (+ n (b n))))(b (n) (return (- (c n n) n)))(c (n m) (return (* n (d n m m))))(d (x y z) (while (< 0 x) (set x (- x 1)) (do (+ y (go 'b')))) (return (+ z (go 'c'))))",
		"(main () (let x 0) (while (< 1 (cell x 1)) ) (return (go 'a')))",
		"(main () (let x (cell 0 0)) (while 1 (set x (cell x x)) (do (go 'a'))))",
	}
}

// journey hands look agents that are right, and away, packed or not.
func journey(t *testing.T, seed int64, count int, look func(w *traveller, a api.Agent)) {
	t.Helper()
	w := &traveller{rand.New(rand.NewSource(seed))}
	for range count {
		for _, s := range texts() {
			a := vm.New(3, mustMake(t, s), api.Permit{Fuel: 40 + w.r.Intn(300), Cells: w.r.Intn(61), Hops: w.r.Intn(13)})
			for e := (api.Event{}); e.Kind <= api.EvGo; {
				a, e = vm.Run(a, api.Spot{Name: "a", Facts: []api.Fact{{Key: "price", Value: num(5)}}}, 100)
				if e.Kind != api.EvGo {
					continue
				}
				for _, b := range []api.Agent{a, w.upset(a)} {
					isRight(t, b)
					look(w, b)
				}
				a = vm.Answer(a, 1)
			}
		}
	}
}

// There, and back: what comes of the bytes is the agent, packed, and its bytes are those.
func TestH1ThereAndBack(t *testing.T) {
	packed, not := 0, 0
	journey(t, 1, 60, func(w *traveller, a api.Agent) {
		before := whole(a)
		p := vm.Pack(a)
		b := Bytes(a)
		if whole(a) != before || !bytes.Equal(b, sealed(p)) || !bytes.Equal(b, Bytes(p)) {
			t.Fatalf("%s: % x comes, not % x", before, b, sealed(p))
		}
		got, err := Parse(b)
		if err != api.OK || whole(got) != whole(p) {
			t.Fatalf("%s: %s, %d comes, not %s", before, whole(got), err, whole(p))
		}
		if isPacked(a) {
			packed++
			parses(t, "packed", sealed(a), a)
		} else {
			not++
			fails(t, "not packed", sealed(a), api.ErrForm)
		}
	})
	if packed < 500 || not < 500 {
		t.Errorf("%d were packed, %d not", packed, not)
	}
}

// Packed, it goes on the same: what comes of the bytes says what the agent would have said.
func TestH1GoesOnTheSame(t *testing.T) {
	events := map[int]int{}
	journey(t, 2, 30, func(w *traveller, a api.Agent) {
		b, err := Parse(Bytes(a))
		if err != api.OK {
			t.Fatalf("%s: %d comes", whole(a), err)
		}
		answer, spot := w.r.Intn(2), api.Spot{Name: "b", Facts: []api.Fact{{Key: "price", Value: txt("dear")}}}
		want, wantEvent := vm.Run(vm.Answer(a, answer), spot, 60)
		got, e := vm.Run(vm.Answer(b, answer), spot, 60)
		if e != wantEvent || whole(vm.Pack(got)) != whole(vm.Pack(want)) {
			t.Fatalf("%s: %+v, %s comes, not %+v, %s", whole(a), e, whole(got), wantEvent, whole(want))
		}
		events[e.Kind]++
	})
	for kind := api.EvSay; kind <= api.EvDead; kind++ {
		if events[kind] < 20 {
			t.Errorf("event %d came %d times alone", kind, events[kind])
		}
	}
}

// fewer is a, sometimes without frames, or without codes.
func (w *traveller) fewer(a api.Agent) api.Agent {
	switch w.r.Intn(50) {
	case 0:
		a.Frames = nil
	case 1:
		a.Program.Codes = nil
	}
	return a
}

// spoil changes a number, or a text, or has one more, or less.
func (w *traveller) spoil(l []part) []part {
	i := w.r.Intn(len(l))
	if w.r.Intn(2) == 0 {
		// there are many instructions: the others are to be come to as often
		for l[i].what == "Op" || l[i].what == "A" || l[i].what == "B" {
			i = w.r.Intn(len(l))
		}
	}
	odd := []int{0, 1, -1, 2, 3, 17, 61, math.MaxInt, math.MinInt, 1 << 30, 1<<30 + 1, l[i].n + 1, l[i].n - 1, l[i].n ^ 2}
	switch w.r.Intn(12) {
	case 0:
		return slices.Delete(l, i, i+1)
	case 1:
		return slices.Insert(l, i, part{n: odd[w.r.Intn(len(odd))]})
	case 2:
		return l[:i]
	}
	if l[i].what == "raw" {
		l[i].raw = []string{"'", "\n", "a", l[i].raw + "x", string(make([]byte, 70))}[w.r.Intn(5)]
		if w.r.Intn(2) == 0 {
			l[i-1].n = len(l[i].raw)
		}
		return l
	}
	l[i].n = odd[w.r.Intn(len(odd))]
	return l
}

// spoilBytes changes bytes, whatever they are of.
func (w *traveller) spoilBytes(b []byte) []byte {
	i := w.r.Intn(len(b))
	switch w.r.Intn(4) {
	case 0:
		return slices.Delete(b, i, i+1)
	case 1:
		return slices.Insert(b, i, []byte{0, 0x80, 0xff, byte(w.r.Intn(256))}[w.r.Intn(4)])
	case 2:
		return slices.Insert(b, i, bytes.Repeat([]byte{0xff}, 11)...)
	}
	b[i] ^= 1 << w.r.Intn(8)
	return b
}

func TestH1Slow(t *testing.T) {
	times := map[api.Errno]int{}
	journey(t, 3, 60, func(w *traveller, a api.Agent) {
		if w.r.Intn(3) > 0 {
			a = vm.Pack(a)
		}
		for range 6 {
			l := parts(w.fewer(a))
			for range w.r.Intn(3) {
				if len(l) > 0 {
					l = w.spoil(l)
				}
			}
			b := join(l)
			if w.r.Intn(4) == 0 && len(b) > 0 {
				b = w.spoilBytes(b)
			}
			if w.r.Intn(8) > 0 {
				b = seal(b)
			}
			if w.r.Intn(8) == 0 && len(b) > 0 {
				b = w.spoilBytes(b)
			}
			before := fmt.Sprintf("% x", b)
			want, wantErr := slowParse(b)
			got, err := Parse(b)
			if err != wantErr || whole(got) != whole(want) {
				t.Fatalf("%s: %s, %d comes, not %s, %d", before, whole(got), err, whole(want), wantErr)
			}
			if fmt.Sprintf("% x", b) != before {
				t.Fatalf("%s has become % x", before, b)
			}
			if err == api.OK && !bytes.Equal(Bytes(got), b) {
				t.Fatalf("%s: its bytes are % x", before, Bytes(got))
			}
			times[err]++
		}
	})
	for _, err := range []api.Errno{api.OK, api.ErrKind, api.ErrForm, api.ErrRange, api.ErrMuch, api.ErrMany, api.ErrNone, api.ErrName, api.ErrEnd, api.ErrFit} {
		if times[err] < 50 {
			t.Errorf("%d came %d times alone", err, times[err])
		}
	}
}
