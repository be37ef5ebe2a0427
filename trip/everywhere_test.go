package trip

import (
	"bytes"
	"fmt"
	"math"
	"math/rand"
	"slices"
	"strings"
	"testing"

	"wanderstaff/api"
	"wanderstaff/image"
)

// Whatever bytes are handed in, nothing panics, and nothing comes beside an error.
func TestZ1AnyBytes(t *testing.T) {
	r := rand.New(rand.NewSource(1))
	some := []byte{0, 0, 1, 2, 2, 4, 6, 8, 0x80, 0xff}
	for range 100000 {
		b := make([]byte, r.Intn(30))
		for i := range b {
			b[i] = some[r.Intn(len(some))]
		}
		if r.Intn(2) == 0 {
			b = seal(b)
		}
		if p, err := Parse(b); err != api.OK && whole(p) != whole(api.Packet{}) || err == api.OK && !bytes.Equal(Bytes(p), b) {
			t.Fatalf("% x: %+v, %d comes", b, p, err)
		}
	}
	for _, x := range []byte{0, 1, 2, 4, 0x7f, 0x80, 0xff} {
		Parse(bytes.Repeat([]byte{x}, 1<<22))
	}
}

// Whatever packets and spots are handed in, nothing panics.
func TestZ1AnyPackets(t *testing.T) {
	odd := []int{math.MinInt, -1, 0, 1, 2, 3, 4, 7, math.MaxInt}
	long := strings.Repeat("x", 1000)
	for _, n := range odd {
		for _, m := range odd {
			for _, data := range [][]byte{nil, []byte(long), image.Bytes(gone(t))} {
				x := api.Packet{Kind: 1 + (n+m)&3, From: n, To: m, ID: m, Trip: n, Data: data}
				s := api.Spot{Name: long, Fuel: n, Cells: m, Facts: make([]api.Fact, 99)}
				for _, p := range []api.Place{{}, busy(t)} {
					q, l := Come(p, s, x)
					if len(l) > 1 || len(q.Agents)+len(q.Away) > len(p.Agents)+len(p.Away)+1 {
						t.Errorf("%+v: %+v, %+v comes", x, q, l)
					}
				}
				Parse(Bytes(x))
			}
		}
	}
}

// The same comes each time, and what was answered in between is no matter.
func TestZ1Again(t *testing.T) {
	for what, call := range calls() {
		want := whole(call(t, busy(t)))
		for other, between := range calls() {
			between(t, busy(t))
			same(t, what+" behind "+other, whole(call(t, busy(t))), want)
		}
	}
}

// calls is what each call makes of a place.
func calls() map[string]func(t *testing.T, p api.Place) api.Place {
	come := func(s api.Spot, x api.Packet) func(t *testing.T, p api.Place) api.Place {
		return func(t *testing.T, p api.Place) api.Place {
			if x.Kind == api.PackOffer {
				x.Data = image.Bytes(gone(t))
			}
			q, _ := Come(p, s, x)
			return q
		}
	}
	return map[string]func(t *testing.T, p api.Place) api.Place{
		"Own":                 func(t *testing.T, p api.Place) api.Place { return Own(p) },
		"Leave":               func(t *testing.T, p api.Place) api.Place { return Leave(p, gone(t), 1) },
		"Come of who is in":   come(roomy(), api.Packet{Kind: 1, ID: 7, Trip: 3}),
		"Come of who is not":  come(api.Spot{}, api.Packet{Kind: 1, ID: 7, Trip: 3}),
		"Come of who was in":  come(roomy(), api.Packet{Kind: 1, ID: 1, Trip: 1}),
		"Come of who was out": come(roomy(), api.Packet{Kind: 1, ID: 5, Trip: 1}),
		"Come of nobody":      come(roomy(), api.Packet{Kind: 1, ID: 7, Trip: 4}),
		"Come of a yes":       come(roomy(), api.Packet{Kind: 2, From: 2, ID: 7, Trip: 3}),
		"Come of a no":        come(roomy(), api.Packet{Kind: 3, From: 2, ID: 7, Trip: 3}),
		"Come of a no first":  come(roomy(), api.Packet{Kind: 3, From: 1, ID: 3, Trip: 1}),
		"Come of another no":  come(roomy(), api.Packet{Kind: 3, From: 1, ID: 7, Trip: 3}),
		"Come of no kind":     come(roomy(), api.Packet{Kind: 4, From: 2, ID: 7, Trip: 3}),
	}
}

// spoilAgent writes over all that a holds, the spare room behind its lists too.
func spoilAgent(a api.Agent) {
	for _, c := range a.Program.Codes[:cap(a.Program.Codes)] {
		fill(c.Instrs, api.Instr{Op: 77, A: 77, B: 77})
	}
	for _, f := range a.Frames[:cap(a.Frames)] {
		fill(f.Vars, api.Value{Kind: 77})
		fill(f.Stack, api.Value{Kind: 77})
	}
	fill(a.Program.Codes, api.Code{Params: 77})
	fill(a.Program.Words, "spoilt")
	fill(a.Frames, api.Frame{Fn: 77})
	fill(a.Heap, api.Cell{Left: api.Value{Kind: 77}})
}

func spoil(p api.Place) {
	for _, l := range [][]api.Agent{p.Agents, p.Away} {
		for _, a := range l[:cap(l)] {
			spoilAgent(a)
		}
		fill(l, api.Agent{ID: 77})
	}
	fill(p.Whom, 77)
	fill(p.Seen, api.Seen{ID: 77})
}

func fill[T any](l []T, x T) {
	l = l[:cap(l)]
	for i := range l {
		l[i] = x
	}
}

// What is answered is the caller's: neither does the argument hang on it, nor it on the argument.
func TestZ2NewMemory(t *testing.T) {
	for what, call := range calls() {
		p := busy(t)
		want := whole(call(t, busy(t)))
		spoil(call(t, p))
		same(t, what+": the argument", whole(p), whole(busy(t)))
		q := call(t, p)
		spoil(p)
		same(t, what+": the answer", whole(q), want)
	}
	a := gone(t)
	p := Leave(busy(t), a, 1)
	want := whole(p)
	spoilAgent(a)
	same(t, "Leave: the answer", whole(p), want)
	a = gone(t)
	spoil(Leave(busy(t), a, 1))
	same(t, "Leave: the agent", whole(a), whole(gone(t)))
}

func TestZ2NewMemoryOfPackets(t *testing.T) {
	p := busy(t)
	l := Offers(p, 0)
	want := whole(l)
	spoil(p)
	same(t, "offers", whole(l), want)
	p = busy(t)
	l = Offers(p, 0)
	for _, x := range l {
		fill(x.Data, 77)
	}
	fill(l, api.Packet{Kind: 77})
	same(t, "the place", whole(p), whole(busy(t)))
	l = Offers(p, 0)
	for i := range l {
		old := slices.Clone(l[i].Data)
		fill(l[i].Data, 77)
		copy(l[i].Data, old)
		same(t, "offers that share room", whole(l), want)
	}

	x := offer()
	b := Bytes(x)
	before := slices.Clone(b)
	fill(x.Data, 77)
	if !bytes.Equal(b, before) {
		t.Errorf("% x has become % x", before, b)
	}
	x, _ = Parse(b)
	fill(b, 77)
	same(t, "the packet", whole(x), whole(offer()))
	fill(x.Data, 78)
	if !bytes.Equal(b, bytes.Repeat([]byte{77}, len(b))) {
		t.Errorf("the bytes have become % x", b)
	}
	x = offerOf(gone(t))
	p, said := Come(api.Place{}, roomy(), x)
	fill(x.Data, 77)
	same(t, "who came", whole(p.Agents), whole([]api.Agent{come(t, 100)}))
	fill(said, api.Packet{Kind: 77})
	same(t, "who came", whole(p.Agents), whole([]api.Agent{come(t, 100)}))
}

// lists is all lists of a, each as a function that writes over it, and over its spare room, and puts back what it held.
func lists(a *api.Agent) (out []func()) {
	for i := range a.Program.Codes {
		out = append(out, over(a.Program.Codes[i].Instrs, api.Instr{Op: 77}))
	}
	for i := range a.Frames {
		out = append(out, over(a.Frames[i].Vars, num(77)), over(a.Frames[i].Stack, num(77)))
	}
	return append(out, over(a.Program.Codes, api.Code{}), over(a.Program.Words, "77"), over(a.Frames, api.Frame{}), over(a.Heap, api.Cell{}))
}

func over[T any](l []T, x T) func() {
	return func() {
		old := slices.Clone(l)
		fill(l, x)
		copy(l, old)
	}
}

// No two lists of an answer share any room.
func TestZ2NoListsShare(t *testing.T) {
	for what, call := range calls() {
		p := call(t, busy(t))
		all := []func(){over(p.Agents, api.Agent{}), over(p.Away, api.Agent{}), over(p.Whom, 77), over(p.Seen, api.Seen{})}
		for i := range p.Agents {
			all = append(all, lists(&p.Agents[i])...)
		}
		for i := range p.Away {
			all = append(all, lists(&p.Away[i])...)
		}
		want := whole(p)
		for i, write := range all {
			write()
			same(t, fmt.Sprint(what, ": list ", i), whole(p), want)
		}
	}
}

// rooms is l, with x three times in its spare room.
func rooms[T any](l []T, x T) []T { return slices.Concat(l, []T{x, x, x})[:len(l)] }

// roomyAgent is a with other things in all its spare room.
func roomyAgent(a api.Agent) api.Agent {
	odd := api.Value{Kind: 9, N: 9, Text: "spare"}
	for i, c := range a.Program.Codes {
		a.Program.Codes[i].Instrs = rooms(c.Instrs, api.Instr{Op: 9, A: 9, B: 9})
	}
	for i, f := range a.Frames {
		a.Frames[i].Vars, a.Frames[i].Stack = rooms(f.Vars, odd), rooms(f.Stack, odd)
	}
	a.Program.Codes, a.Program.Words = rooms(a.Program.Codes, api.Code{Vars: 9}), rooms(a.Program.Words, "spare")
	a.Frames, a.Heap = rooms(a.Frames, api.Frame{Fn: 9}), rooms(a.Heap, pair(odd, odd))
	return a
}

// spareOf tells all that is in a, its spare room too.
func spareOf(a api.Agent) string {
	var out strings.Builder
	for _, c := range a.Program.Codes {
		fmt.Fprint(&out, c.Instrs[:len(c.Instrs)+3])
	}
	for _, f := range a.Frames {
		fmt.Fprint(&out, f.Vars[:len(f.Vars)+3], f.Stack[:len(f.Stack)+3])
	}
	n := len(a.Program.Codes)
	fmt.Fprint(&out, a.Program.Codes[:n+3], a.Program.Words[:len(a.Program.Words)+3], a.Frames[:len(a.Frames)+3], a.Heap[:len(a.Heap)+3])
	return out.String()
}

// The spare room behind lists is neither looked at nor changed.
func TestZ2SpareRoom(t *testing.T) {
	for what, call := range calls() {
		p := busy(t)
		for _, l := range [][]api.Agent{p.Agents, p.Away} {
			for i := range l {
				l[i] = roomyAgent(l[i])
			}
		}
		p.Agents, p.Away = rooms(p.Agents, here(t, 7, 3, 1)), rooms(p.Away, gone(t))
		p.Whom, p.Seen = rooms(p.Whom, 2), rooms(p.Seen, api.Seen{ID: 7, Trip: 3, Yes: true})
		all := func() (out string) {
			for _, a := range slices.Concat(p.Agents, p.Away) {
				out += spareOf(a)
			}
			return out + whole([]any{p.Agents[:5], p.Away[:6], p.Whom[:6], p.Seen[:5]})
		}
		before := all()
		same(t, what, whole(call(t, p)), whole(call(t, busy(t))))
		same(t, what+": offers", whole(Offers(p, 1)), whole(Offers(busy(t), 1)))
		same(t, what+": the argument", all(), before)
	}
	a := roomyAgent(gone(t))
	before := spareOf(a)
	same(t, "Leave", whole(Leave(busy(t), a, 1)), whole(Leave(busy(t), gone(t), 1)))
	same(t, "Leave: the agent", spareOf(a), before)
	x := offerOf(gone(t))
	x.Data = rooms(x.Data, 0)
	_, l := Come(api.Place{}, roomy(), x)
	same(t, "Come", whole(l), whole(says(api.PackYes, 7, 3)))
	if got := Bytes(x); !bytes.Equal(got, Bytes(offerOf(gone(t)))) || !bytes.Equal(x.Data[len(x.Data):len(x.Data)+3], []byte{0, 0, 0}) {
		t.Errorf("% x comes", got)
	}
	b := rooms(Bytes(yes()), 0x80)
	parses(t, "bytes with spare room", b, yes())
	fails(t, "bytes that go on in the spare room", b[:len(b)-1], api.ErrEnd)
}

// nil and a list without entries are the same.
func TestZ3NoEntries(t *testing.T) {
	empty := api.Place{Agents: []api.Agent{}, Away: []api.Agent{}, Whom: []int{}, Seen: []api.Seen{}}
	for what, call := range calls() {
		same(t, what, whole(call(t, empty)), whole(call(t, api.Place{})))
	}
	if l := Offers(empty, 0); len(l) != 0 {
		t.Errorf("%+v comes", l)
	}
	x := yes()
	x.Data = []byte{}
	if !bytes.Equal(Bytes(x), Bytes(yes())) {
		t.Errorf("% x comes", Bytes(x))
	}
	a := small(t, 3, 1)
	a.Heap, a.Frames[0].Vars, a.Frames[0].Stack = []api.Cell{}, []api.Value{}, []api.Value{}
	same(t, "Leave", whole(Leave(empty, a, 1)), whole(Leave(api.Place{}, small(t, 3, 1), 1)))
}
