package alone

import (
	"fmt"
	"math/rand"
	"reflect"
	"slices"
	"strings"
	"testing"

	"wanderstaff/api"
	"wanderstaff/code"
	"wanderstaff/image"
	"wanderstaff/scope"
	"wanderstaff/text"
	"wanderstaff/verify"
	"wanderstaff/vm"
)

// writer writes programs, in which numbers are mostly in n, texts in s, and cells in c.
type writer struct{ r *rand.Rand }

func (w *writer) pick(l ...string) string { return l[w.r.Intn(len(l))] }

// fill puts an expression in the place of each N, S, C (a number, a text, a cell), G (a place's name), and V (any of the first three).
func (w *writer) fill(s string, deep int) string {
	var out strings.Builder
	for _, b := range []byte(s) {
		kind := strings.IndexByte("NSCVG", b)
		if kind < 0 {
			out.WriteByte(b)
			continue
		}
		if kind == 4 {
			out.WriteString(w.pick("'a'", "'b'", "'c'", "'d'", "'z'", "(here)", "(ask 'next')", "s"))
			continue
		}
		if kind == 3 || w.r.Intn(80) == 0 {
			kind = w.r.Intn(3)
		}
		out.WriteString(w.expr(kind, deep-1))
	}
	return out.String()
}

func (w *writer) expr(kind, deep int) string {
	if deep <= 0 {
		return [3]string{w.pick("0", "1", "n", "-70", "1073741824"), w.pick("s", "''", "'b'", "'twelve bytes'", "(here)"), w.pick("c", "c", "(cell n s)")}[kind]
	}
	return w.fill([3]string{
		w.pick("n", "(+ N N)", "(- N N)", "(* N N)", "(< N N)", "(< S S)", "(= V V)", "(ask 'price')", "(go G)", "(go G)", "(f N S)", "(left C)"),
		w.pick("s", "(+ S S)", "(here)", "(ask 'next')", "(g C)"),
		w.pick("c", "(cell N S)", "(cell N C)", "(h)", "(cell N C)"),
	}[kind], deep)
}

func (w *writer) block(deep int) string {
	out := ""
	for range w.r.Intn(4) {
		out += w.stmt(deep-1) + " "
	}
	return "(" + out + ")"
}

func (w *writer) stmt(deep int) string {
	switch n := w.r.Intn(13); {
	case n == 0 && deep > 0:
		return w.fill("(if N ", 2) + w.block(deep) + " " + w.block(deep) + ")"
	case n == 1 && deep > 0:
		body := w.block(deep)
		return w.fill("(while (< n N) ", 2) + body[1:len(body)-1] + " (set n (+ n 1)))"
	case n == 2 && deep > 0:
		// what a let has made is held as long as the call goes on
		return w.fill("(if N ((let x V) (set c (cell 1 x)) (do (go G))) ((let x C) (say (go G))))", 3)
	case n == 3 && w.r.Intn(3) == 0:
		return w.fill("(return V)", 3)
	}
	return w.fill(w.pick("(set n N)", "(set s S)", "(set c C)", "(set c 0)", "(putl c N)", "(putr c c)", "(say V)", "(do (go G))", "(say (go G))", "(say (+ (here) S))", "(do V)"), 4)
}

func (w *writer) text() string {
	body := func() (out string) {
		for range 2 + w.r.Intn(6) {
			out += " " + w.stmt(3)
		}
		return out
	}
	return "(main () (let n 0) (let s 'a') (let c (cell 1 2))" + body() + ")" +
		"(f (n s) (let c (cell n s))" + body() + w.fill("(return N)", 3) + ")" +
		"(g (c) (let n 3) (let s '')" + body() + w.fill("(return S)", 3) + ")" +
		"(h () (let n 0) (let s 'h') (let c (cell s n))" + body() + w.fill("(return C)", 3) + ")"
}

// fns is what is right.
func (w *writer) fns() ([]api.Fn, api.Program) {
	for {
		l, err := text.Parse(w.text())
		if err != api.OK || scope.Check(l) != api.OK {
			continue
		}
		if p, err := code.Make(l); err == api.OK {
			return l, p
		}
	}
}

// spots are right; mostly as roomy as may be.
func (w *writer) spots() (l []api.Spot) {
	for _, name := range []string{"a", "b", "c", "d"}[:1+w.r.Intn(4)] {
		s := api.Spot{Name: name, Fuel: 2000 >> w.r.Intn(6), Cells: 60 >> w.r.Intn(7)}
		for range w.r.Intn(4) {
			s.Facts = append(s.Facts, api.Fact{Key: w.pick("price", "next"), Value: []api.Value{num(w.r.Intn(9)), txt(w.pick("a", "b", "c")), txt("c")}[w.r.Intn(3)]})
		}
		l = append(l, s)
	}
	return l
}

func (w *writer) permit() api.Permit {
	return api.Permit{Fuel: w.r.Intn(2001) >> w.r.Intn(4), Cells: w.r.Intn(61), Hops: w.r.Intn(13)}
}

// What is said, and how it ends, is as if going were nothing.
func TestI2AsIfGoingWereNothing(t *testing.T) {
	ends := map[api.Errno]int{}
	went, full, cut, said := 0, 0, 0, 0
	w := &writer{rand.New(rand.NewSource(1))}
	for range 6000 {
		fns, p := w.fns()
		permit, l := w.permit(), w.spots()
		at := w.r.Intn(len(l))
		then, wantEnd := walk(fns, permit, l, at)
		got, end, err := Run(p, permit, l, at)
		if err != api.OK || end != wantEnd || !slices.Equal(got, then.said) {
			t.Fatalf("%+v, %+v at %d of %+v:\n%q %+v %d comes, not\n%q %+v", fns, permit, at, l, got, end, err, then.said, wantEnd)
		}
		ends[end.Err]++
		went, full, cut, said = went+then.went, full+then.full, cut+then.cut, said+len(got)
	}
	for _, err := range []api.Errno{api.OK, api.ErrFuel, api.ErrType, api.ErrFull, api.ErrDeep} {
		if ends[err] < 100 {
			t.Errorf("%d ended so: %d", ends[err], err)
		}
	}
	if went < 1000 || full < 300 || cut < 300 || said < 5000 {
		t.Errorf("%d went, %d had too much, %d had less fuel then, %d was said", went, full, cut, said)
	}
}

// byHand is what I2 tells: step by step, and as bytes wherever it goes.
func byHand(t *testing.T, p api.Program, permit api.Permit, l []api.Spot, at int) (said []string, end api.End) {
	t.Helper()
	a := vm.New(0, p, permit)
	for {
		if err := verify.Agent(a, false); err != api.OK {
			t.Fatalf("%d is wrong with %s", err, whole(a))
		}
		b, e := vm.Run(a, l[at], 1)
		a = b
		switch e.Kind {
		case api.EvSay:
			said = append(said, e.Text)
		case api.EvDone:
			return said, api.End{Text: e.Text}
		case api.EvDead:
			return said, api.End{Err: e.Err}
		case api.EvGo:
			to := slices.IndexFunc(l, func(s api.Spot) bool { return s.Name == e.Text })
			b, err := image.Parse(image.Bytes(a))
			if err != api.OK {
				t.Fatalf("%d is wrong with the bytes of %s", err, whole(a))
			}
			in := to >= 0 && to != at && len(b.Heap) <= l[to].Cells
			if in {
				a, at = b, to
				a.Permit.Fuel = min(a.Permit.Fuel, l[to].Fuel)
			}
			f := &a.Frames[len(a.Frames)-1]
			f.Stack = append(f.Stack, answer(in))
		}
	}
}

// answer is that to who has set out.
func answer(in bool) api.Value {
	if in {
		return num(1)
	}
	return num(0)
}

// Step by step, and there as bytes, as at once; of code that no text makes, too.
func TestI2ByHand(t *testing.T) {
	w := &writer{rand.New(rand.NewSource(2))}
	odd := 0
	for range 600 {
		_, p := w.fns()
		for range w.r.Intn(6) {
			c := p.Codes[w.r.Intn(len(p.Codes))].Instrs
			i := w.r.Intn(len(c))
			was := c[i]
			c[i] = api.Instr{Op: 1 + w.r.Intn(19), A: w.r.Intn(6), B: w.r.Intn(2)}
			if verify.Program(p) != api.OK {
				c[i] = was
			} else if c[i] != was {
				odd++
			}
		}
		permit, l := w.permit(), w.spots()
		at := w.r.Intn(len(l))
		said, end := byHand(t, p, permit, l, at)
		got, gotEnd, err := Run(p, permit, l, at)
		if err != api.OK || gotEnd != end || !slices.Equal(got, said) {
			t.Fatalf("%+v, %+v at %d of %+v: %q %+v %d comes, not %q %+v", p, permit, at, l, got, gotEnd, err, said, end)
		}
	}
	if odd < 100 {
		t.Errorf("%d instructions were others", odd)
	}
}

// slowWrong looks at all that may be wrong with a place, in the order in which the chapter names it.
func slowWrong(l []api.Spot) (api.Errno, int) {
	if n := len(l); n == 0 || n > 4 {
		return api.ErrMany, -1
	}
	for i, s := range l {
		taken, odd := false, false
		for j := range i {
			taken = taken || l[j].Name == s.Name
		}
		for _, f := range s.Facts {
			v := f.Value
			isNumber := v.Kind == 0 && v.Text == "" && v.N <= 1<<30 && v.N >= -1<<30
			isText := v.Kind == 1 && v.N == 0 && len(v.Text) <= 60
			odd = odd || len(f.Key) > 60 || !isNumber && !isText
		}
		switch {
		case s.Name == "" || len(s.Name) > 12 || taken:
			return api.ErrName, i
		case s.Fuel < 0 || s.Fuel > 2000 || s.Cells < 0 || s.Cells > 60:
			return api.ErrRange, i
		case len(s.Facts) > 4:
			return api.ErrMany, i
		case odd:
			return api.ErrType, i
		}
	}
	return 0, -1
}

func TestI1WrongSlow(t *testing.T) {
	w := &writer{rand.New(rand.NewSource(3))}
	some := func(l ...int) int {
		if w.r.Intn(8) > 0 {
			return l[0]
		}
		return l[w.r.Intn(len(l))]
	}
	times := map[string]int{}
	for range 40000 {
		var l []api.Spot
		for i := range some(3, 0, 1, 2, 4, 5, 6) {
			s := api.Spot{Name: fmt.Sprint(i), Fuel: some(9, -1, 0, 2000, 2001), Cells: some(9, -1, 0, 60, 61)}
			if w.r.Intn(8) == 0 {
				s.Name = w.pick("", "0", "1", "2", "twelve bytes", "thirteen byte")
			}
			for range some(2, 0, 4, 5, 9) {
				v := api.Value{Kind: some(w.r.Intn(2), -1, 2, 3)}
				if v.Kind == api.ValText {
					v.Text, v.N = strings.Repeat("x", some(1, 60, 61)), some(0, 1)
				} else {
					v.Text, v.N = strings.Repeat("x", some(0, 1)), some(0, 1<<30, 1<<30+1, -1<<30, -1<<30-1)
				}
				s.Facts = append(s.Facts, api.Fact{Key: strings.Repeat("k", some(1, 0, 60, 61)), Value: v})
			}
			l = append(l, s)
		}
		want, wantAt := slowWrong(l)
		wrongIs(t, fmt.Sprintf("%+v", l), l, want, wantAt)
		times[fmt.Sprint(want, wantAt)]++
		if said, end, err := Run(quiet(), api.Permit{Fuel: 9}, l, 0); err != want || said != nil || end != (api.End{}) && want != api.OK {
			t.Fatalf("%+v: %q %+v %d comes, not %d", l, said, end, err, want)
		}
	}
	for _, err := range []api.Errno{api.ErrName, api.ErrRange, api.ErrMany, api.ErrType} {
		for at := range 3 {
			if n := times[fmt.Sprint(err, at)]; n < 50 {
				t.Errorf("%d at %d came %d times", err, at, n)
			}
		}
	}
}

// quiet is a program that says nothing.
func quiet() api.Program {
	return api.Program{Codes: []api.Code{{Instrs: []api.Instr{{Op: api.OpInt}, {Op: api.OpReturn}}}}}
}

// Whoever is away, and right, comes as Let has it: what its bytes tell is what is let in.
func TestI1LetSlow(t *testing.T) {
	w := &writer{rand.New(rand.NewSource(4))}
	in, out := 0, 0
	for range 1500 {
		_, p := w.fns()
		l := w.spots()
		a, e := vm.Run(vm.New(w.r.Intn(9), p, api.Permit{Fuel: 1 + w.r.Intn(2000), Cells: w.r.Intn(61), Hops: 12}), l[0], 2001)
		for ; e.Kind <= api.EvGo; a, e = vm.Run(a, l[0], 2001) {
			if e.Kind != api.EvGo {
				continue
			}
			a.Trip = w.r.Intn(9)
			s := api.Spot{Name: "x", Fuel: w.r.Intn(a.Permit.Fuel + 50), Cells: w.r.Intn(len(a.Heap) + 2)}
			b, err := image.Parse(image.Bytes(a))
			if err != api.OK {
				t.Fatalf("%d is wrong with %s", err, whole(a))
			}
			if len(b.Heap) > s.Cells {
				out++
				letIs(t, "slow", a, s, api.Agent{}, false)
			} else {
				in++
				b.Permit.Fuel = min(b.Permit.Fuel, s.Fuel)
				f := &b.Frames[len(b.Frames)-1]
				f.Stack = append(f.Stack, num(1))
				letIs(t, "slow", a, s, b, true)
				if verify.Agent(b, false) != api.OK {
					t.Fatalf("%s is not right", whole(b))
				}
			}
			a = vm.Answer(a, w.r.Intn(2))
		}
	}
	if in < 500 || out < 200 {
		t.Errorf("%d were let in, and %d were not", in, out)
	}
}

// The same comes each time, and nothing that was handed in has become something else.
func TestZ1RunAgain(t *testing.T) {
	w := &writer{rand.New(rand.NewSource(5))}
	for range 300 {
		_, p := w.fns()
		permit, l := w.permit(), w.spots()
		before := fmt.Sprintf("%+v %+v", p, l)
		said, end, err := Run(p, permit, l, 0)
		Run(quiet(), api.Permit{Fuel: 9}, three(), 1)
		again, endAgain, errAgain := Run(p, permit, l, 0)
		if !reflect.DeepEqual(said, again) || end != endAgain || err != errAgain {
			t.Fatalf("%q %+v %d comes, and then %q %+v %d", said, end, err, again, endAgain, errAgain)
		}
		if after := fmt.Sprintf("%+v %+v", p, l); after != before {
			t.Fatalf("%s has become %s", before, after)
		}
	}
}
