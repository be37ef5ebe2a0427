package image

import (
	"bytes"
	"fmt"
	"math"
	"math/rand"
	"slices"
	"strings"
	"testing"

	"wanderstaff/api"
)

// Whatever bytes are handed in, nothing panics, and nothing comes beside an error.
func TestZ1AnyBytes(t *testing.T) {
	for _, b := range [][]byte{nil, {}} {
		fails(t, "nothing", b, api.ErrEnd)
	}
	r := rand.New(rand.NewSource(4))
	some := []byte{0, 0, 0, 1, 2, 2, 4, 6, 0x80, 0xff}
	for range 100000 {
		b := make([]byte, r.Intn(40))
		for i := range b {
			b[i] = some[r.Intn(len(some))]
			if r.Intn(20) == 0 {
				b[i] = byte(r.Intn(256))
			}
		}
		got, err := Parse(b)
		want, wantErr := slowParse(b)
		if err != wantErr || whole(got) != whole(want) || err != api.OK && whole(got) != whole(api.Agent{}) {
			t.Fatalf("% x: %s, %d comes, not %s, %d", b, whole(got), err, whole(want), wantErr)
		}
	}
	for _, x := range []byte{0, 1, 2, 4, 0x7f, 0x80, 0xff} {
		Parse(bytes.Repeat([]byte{x}, 1<<22))
	}
}

// Of an agent that is not right nothing is promised, but no panic comes of it.
func TestZ1AgentsThatAreNotRight(t *testing.T) {
	odd := []api.Value{{Kind: 9, N: 9, Text: "odd"}, {Kind: -1, N: math.MinInt}, {Kind: api.ValCell, N: -1}, {Kind: api.ValCell, N: 99}, {Kind: api.ValText, N: 7, Text: strings.Repeat("x", 99)}, {N: math.MaxInt, Text: "odd"}}
	for _, a := range []api.Agent{
		{}, {Frames: []api.Frame{{}}}, {Heap: make([]api.Cell, 99)}, {Program: api.Program{Codes: make([]api.Code, 9), Words: make([]string, 99)}},
		{ID: math.MinInt, Trip: math.MaxInt, Frames: []api.Frame{{Fn: -1, At: -1, Vars: odd, Stack: odd}}, Heap: []api.Cell{{Left: odd[0], Right: odd[2]}, {Left: odd[3], Right: odd[4]}}},
	} {
		got, err := Parse(Bytes(a))
		if err == api.OK || whole(got) != whole(api.Agent{}) {
			t.Errorf("%s: %s, %d comes", whole(a), whole(got), err)
		}
	}
}

// The same comes each time, and what was answered in between is no matter.
func TestZ1Again(t *testing.T) {
	want, a := Bytes(gone(t)), gone(t)
	for range 3 {
		if got := Bytes(a); !bytes.Equal(got, want) {
			t.Errorf("% x comes, not % x", got, want)
		}
		Bytes(full(t))
		Parse(nil)
		parses(t, "again", want, a)
	}
}

// spoil writes over all that a holds, the spare room behind its lists too.
func spoil(a api.Agent) {
	for _, c := range a.Program.Codes[:cap(a.Program.Codes)] {
		fill(c.Instrs, api.Instr{Op: 77, A: 77, B: 77})
	}
	for _, f := range a.Frames[:cap(a.Frames)] {
		fill(f.Vars, api.Value{Kind: 77})
		fill(f.Stack, api.Value{Kind: 77})
	}
	fill(a.Program.Codes, api.Code{Params: 77})
	fill(a.Program.Words, "spoilt")
	fill(a.Frames, api.Frame{Fn: 77})
	fill(a.Heap, api.Cell{Left: api.Value{Kind: 77}})
}

func fill[T any](l []T, x T) {
	l = l[:cap(l)]
	for i := range l {
		l[i] = x
	}
}

// What is answered is the caller's: neither does the argument hang on it, nor it on the argument.
func TestZ2NewMemory(t *testing.T) {
	a := gone(t)
	b := Bytes(a)
	before := slices.Clone(b)
	spoil(a)
	if !bytes.Equal(b, before) {
		t.Errorf("% x has become % x", before, b)
	}
	a = gone(t)
	fill(Bytes(a), 0x77)
	same(t, "the agent", whole(a), whole(gone(t)))
	got, _ := Parse(b)
	fill(b, 0x77)
	same(t, "what came of the bytes", whole(got), whole(gone(t)))
	b = slices.Clone(before)
	got, _ = Parse(b)
	spoil(got)
	if !bytes.Equal(b, before) {
		t.Errorf("% x has become % x", before, b)
	}
	parses(t, "the bytes, again", before, gone(t))
}

// No two lists of an answer share any room.
func TestZ2NoListsShare(t *testing.T) {
	got, _ := Parse(Bytes(full(t)))
	var lists []func()
	add := func(f func()) { lists = append(lists, f) }
	for i := range got.Program.Codes {
		add(func() { over(got.Program.Codes[i].Instrs, api.Instr{Op: 77}) })
	}
	for i := range got.Frames {
		add(func() { over(got.Frames[i].Vars, num(77)) })
		add(func() { over(got.Frames[i].Stack, num(77)) })
	}
	for i, write := range lists {
		write()
		same(t, fmt.Sprintf("list %d", i), whole(got), whole(full(t)))
	}
}

// over writes l, and the room behind it, full of x, and then what stood in l again: what else lies there is lost.
func over[T any](l []T, x T) {
	old := slices.Clone(l)
	fill(l, x)
	copy(l, old)
}

// The spare room behind lists is neither looked at nor changed.
func TestZ2SpareRoom(t *testing.T) {
	odd := api.Value{Kind: 9, N: 9, Text: "spare"}
	a := gone(t)
	for i, c := range a.Program.Codes {
		a.Program.Codes[i].Instrs = roomy(c.Instrs, api.Instr{Op: 9, A: 9, B: 9})
	}
	for i, f := range a.Frames {
		a.Frames[i].Vars, a.Frames[i].Stack = roomy(f.Vars, odd), roomy(f.Stack, odd)
	}
	a.Program.Codes, a.Program.Words = roomy(a.Program.Codes, api.Code{Vars: 9}), roomy(a.Program.Words, "spare")
	a.Frames, a.Heap = roomy(a.Frames, api.Frame{Fn: 9}), roomy(a.Heap, pair(odd, odd))
	before := spare(a)
	if got, want := Bytes(a), Bytes(gone(t)); !bytes.Equal(got, want) {
		t.Errorf("% x comes, not % x", got, want)
	}
	same(t, "the spare room of an agent", spare(a), before)
	b := Bytes(gone(t))
	room := roomy(b, 0x80)
	all := slices.Clone(room[:cap(room)])
	parses(t, "bytes with spare room", room, gone(t))
	fails(t, "bytes that go on in the spare room", room[:len(room)-1], api.ErrEnd)
	if !bytes.Equal(room[:cap(room)], all) {
		t.Errorf("% x has become % x", all, room[:cap(room)])
	}
}

// roomy is l, with x three times in its spare room.
func roomy[T any](l []T, x T) []T { return slices.Concat(l, []T{x, x, x})[:len(l)] }

// spare tells all that is in a, its spare room too.
func spare(a api.Agent) string {
	var out strings.Builder
	for _, c := range a.Program.Codes {
		fmt.Fprint(&out, c.Instrs[:len(c.Instrs)+3])
	}
	for _, f := range a.Frames {
		fmt.Fprint(&out, f.Vars[:len(f.Vars)+3], f.Stack[:len(f.Stack)+3])
	}
	fmt.Fprint(&out, a.Program.Codes[:5], a.Program.Words[:5], a.Frames[:5], a.Heap[:5])
	return out.String()
}

// nil and a list without entries are the same.
func TestZ3NoEntries(t *testing.T) {
	a := api.Agent{Program: mustMake(t, "(main () (do (go (here))))"), Frames: []api.Frame{{At: 2}}}
	b := a
	b.Program.Words, b.Heap = []string{}, []api.Cell{}
	b.Frames = []api.Frame{{At: 2, Vars: []api.Value{}, Stack: []api.Value{}}}
	isRight(t, a)
	if !bytes.Equal(Bytes(a), Bytes(b)) {
		t.Errorf("% x comes, and % x", Bytes(a), Bytes(b))
	}
	parses(t, "without entries", Bytes(b), a)
}
