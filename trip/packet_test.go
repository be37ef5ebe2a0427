package trip

import (
	"bytes"
	"fmt"
	"math"
	"slices"
	"testing"

	"wanderstaff/api"
	"wanderstaff/wire"
)

// parses asks that the bytes are those of a packet.
func parses(t *testing.T, what string, b []byte, want api.Packet) {
	t.Helper()
	before := slices.Clone(b)
	got, err := Parse(b)
	if err != api.OK || whole(got) != whole(want) {
		t.Errorf("%s: %+v, %d comes, not %+v", what, got, err, want)
	}
	if !bytes.Equal(b, before) {
		t.Errorf("%s: % x has become % x", what, before, b)
	}
}

// fails asks that so much is wrong with the bytes, and nothing comes beside it.
func fails(t *testing.T, what string, b []byte, want api.Errno) {
	t.Helper()
	got, err := Parse(b)
	if err != want || whole(got) != whole(api.Packet{}) {
		t.Errorf("%s, % x: %+v, %d comes, not %d", what, b, got, err, want)
	}
}

// seal is b with its sum behind it.
func seal(b []byte) []byte { return wire.Num(slices.Clip(b), wire.Sum(b)) }

// nums is l as bytes, one behind the other.
func nums(l ...int) (b []byte) {
	for _, n := range l {
		b = wire.Num(b, n)
	}
	return b
}

// yes is a packet without data, but for what the test is about.
func yes() api.Packet { return api.Packet{Kind: api.PackYes, From: 3, To: 1, ID: 5, Trip: 9} }

func offer() api.Packet {
	return api.Packet{Kind: api.PackOffer, From: 0, To: 2, ID: 64, Trip: 1, Data: []byte("hi\x00\xff")}
}

// The bytes of some, written out.
func TestJ1BytesWrittenOut(t *testing.T) {
	for _, r := range []struct {
		p    api.Packet
		want []byte
	}{
		{offer(), []byte{2, 0, 4, 0x80, 1, 2, 8, 'h', 'i', 0, 0xff, 0x98, 0x92, 0xeb, 0x99, 0x1d}},
		{yes(), []byte{4, 6, 2, 10, 18, 0, 0x8e, 0xfe, 0xe0, 0xa3, 0x15}},
		{api.Packet{Kind: api.PackNo}, []byte{6, 0, 0, 0, 0, 0, 0x88, 0xb2, 0xe3, 0x12}},
	} {
		if got := Bytes(r.p); !bytes.Equal(got, r.want) {
			t.Errorf("% x comes, not % x", got, r.want)
		}
		parses(t, "written out", r.want, r.p)
	}
}

// Whatever a packet's numbers are, and whatever its data are, all of them are in its bytes.
func TestJ1BytesOfAnyPacket(t *testing.T) {
	some := []int{math.MinInt, -64, -1, 0, 1, 3, 4, 63, 64, api.MaxInt, math.MaxInt}
	for i, n := range some {
		for j, m := range some {
			p := api.Packet{Kind: n, From: m, To: some[(i+j)%len(some)], ID: some[(i+2*j)%len(some)], Trip: some[(2*i+j)%len(some)], Data: bytes.Repeat([]byte{byte(i)}, i*j*j)}
			before := whole(p)
			want := nums(p.Kind, p.From, p.To, p.ID, p.Trip, len(p.Data))
			want = seal(append(want, p.Data...))
			if got := Bytes(p); !bytes.Equal(got, want) {
				t.Errorf("%+v: % x comes, not % x", p, got, want)
			}
			same(t, "the packet that is handed in", whole(p), before)
		}
	}
}

func TestJ1ThereAndBack(t *testing.T) {
	for kind := 1; kind <= 3; kind++ {
		for from := range 4 {
			for to := range 4 {
				for _, n := range []int{0, 1, 63, 64, api.MaxInt, api.MaxInt + 1, math.MaxInt} {
					for _, size := range []int{0, 1, 63, 64, 1 << 13} {
						p := api.Packet{Kind: kind, From: from, To: to, ID: n, Trip: n / 3, Data: bytes.Repeat([]byte{0x80}, size)}
						parses(t, "there, and back", Bytes(p), p)
						p.ID, p.Trip = p.Trip, p.ID
						parses(t, "there, and back", Bytes(p), p)
					}
				}
			}
		}
	}
	big := offer()
	big.Data = bytes.Repeat([]byte("all that is between"), 1<<17)
	parses(t, "much", Bytes(big), big)
}

// A part is nothing, and so is what has more behind it, or another byte within.
func TestJ1ParseParts(t *testing.T) {
	b := Bytes(offer())
	for k := range b {
		// there are never fewer bytes in all than its data have, where it tells how many these are
		fails(t, "a part", b[:k], api.ErrEnd)
		for bit := range 8 {
			c := slices.Clone(b)
			c[k] ^= 1 << bit
			if p, err := Parse(c); err == api.OK || whole(p) != whole(api.Packet{}) {
				t.Errorf("% x: %+v %d comes", c, p, err)
			}
		}
	}
	for x := range 256 {
		fails(t, "one more", append(slices.Clip(b), byte(x)), api.ErrForm)
	}
	fails(t, "twice", append(slices.Clip(b), b...), api.ErrForm)
}

// What is wrong with each of the numbers is told in turn, whatever is behind it.
func TestJ1ParseNumbers(t *testing.T) {
	large := append(bytes.Repeat([]byte{0xff}, 9), 2)
	rest := nums(99, -1, -7, 0, -2, -3)
	for i := range 7 {
		// six are ahead, at most: the last one of these is how many bytes Data has
		head := nums(make([]int, 6)...)[:i]
		for _, tail := range [][]byte{nil, rest, large, {0x80, 0}} {
			fails(t, "a number too large", slices.Concat(head, large, tail), api.ErrRange)
			fails(t, "a number too long", slices.Concat(head, []byte{0x82, 0}, tail), api.ErrForm)
		}
		fails(t, "no number", head, api.ErrEnd)
		fails(t, "half a number", append(head, 0xff), api.ErrEnd)
	}
	fails(t, "nothing", nil, api.ErrEnd)
	fails(t, "nothing", []byte{}, api.ErrEnd)
}

// Of Data there may be as many bytes as there are in all, which is ErrEnd, or more, which is ErrMuch.
func TestJ1ParseData(t *testing.T) {
	head := nums(1, 0, 1, 5, 1)
	for _, n := range []int{math.MinInt, math.MinInt + 1, -1 << 40, -64, -2, -1} {
		fails(t, "fewer than none", seal(append(nums(1, 0, 1, 5, 1, n), "data"...)), api.ErrMuch)
		fails(t, "fewer than none, and nothing", nums(1, 0, 1, 5, 1, n), api.ErrMuch)
	}
	for _, n := range []int{1 << 20, 1 << 40, math.MaxInt - 1, math.MaxInt} {
		fails(t, "more than there are", seal(append(nums(1, 0, 1, 5, 1, n), "data"...)), api.ErrMuch)
		fails(t, "more than there are, and nothing", nums(1, 0, 1, 5, 1, n), api.ErrMuch)
	}
	for size := range 30 {
		for n := range 50 {
			b := append(wire.Num(slices.Clip(head), n), bytes.Repeat([]byte{7}, size)...)
			want := api.ErrForm // there are enough: then comes the sum, which is another one
			switch {
			case n > len(b):
				want = api.ErrMuch
			case n >= size:
				want = api.ErrEnd
			}
			fails(t, fmt.Sprint(n, " of ", size), b, want)
		}
	}
}

// The sum is held against all that is ahead of it, and nothing stands behind it.
func TestJ1ParseForm(t *testing.T) {
	for _, p := range []api.Packet{offer(), yes()} {
		b := Bytes(p)
		ahead := append(nums(p.Kind, p.From, p.To, p.ID, p.Trip, len(p.Data)), p.Data...)
		right := wire.Sum(ahead)
		parses(t, "the right sum", wire.Num(slices.Clip(ahead), right), p)
		for _, n := range []int{right - 1, right + 1, -right, right + 1<<32, right - 1<<32, 0, wire.Sum(b), wire.Sum(p.Data), wire.Sum(ahead[1:]), math.MaxInt} {
			fails(t, "another sum", wire.Num(slices.Clip(ahead), n), api.ErrForm)
		}
		fails(t, "no sum", ahead, api.ErrEnd)
		fails(t, "a sum with a needless 0", append(wire.Num(slices.Clip(ahead), right|1<<40), 0), api.ErrForm)
		fails(t, "two sums", wire.Num(slices.Clip(b), right), api.ErrForm)
	}
}

func TestJ1ParseRange(t *testing.T) {
	for _, r := range []struct {
		what string
		do   func(p *api.Packet, n int)
		may  []int
		not  []int
	}{
		{"Kind", func(p *api.Packet, n int) { p.Kind = n }, []int{1, 2, 3}, []int{math.MinInt, -1, 0, 4, 5, math.MaxInt}},
		{"From", func(p *api.Packet, n int) { p.From = n }, []int{0, 1, 2, 3}, []int{math.MinInt, -1, 4, 5, math.MaxInt}},
		{"To", func(p *api.Packet, n int) { p.To = n }, []int{0, 1, 2, 3}, []int{math.MinInt, -1, 4, 5, math.MaxInt}},
		{"ID", func(p *api.Packet, n int) { p.ID = n }, []int{0, 1, api.MaxInt, api.MaxInt + 1, math.MaxInt}, []int{math.MinInt, -2, -1}},
		{"Trip", func(p *api.Packet, n int) { p.Trip = n }, []int{0, 1, api.MaxInt, api.MaxInt + 1, math.MaxInt}, []int{math.MinInt, -2, -1}},
	} {
		for _, p := range []api.Packet{offer(), yes()} {
			for _, n := range r.may {
				r.do(&p, n)
				parses(t, r.what, Bytes(p), p)
			}
			for _, n := range r.not {
				r.do(&p, n)
				b := Bytes(p)
				fails(t, r.what, b, api.ErrRange)
				// what is ahead in turn is told ahead of it
				fails(t, r.what+", cut", b[:len(b)-1], api.ErrEnd)
				fails(t, r.what+", and one more", append(slices.Clip(b), 0), api.ErrForm)
				b[len(b)-2] ^= 1
				fails(t, r.what+", and another sum", b, api.ErrForm)
			}
		}
	}
}

// Where a packet goes, and what is in its data, is no matter to Parse.
func TestJ1ParseAsksNothingElse(t *testing.T) {
	for _, p := range []api.Packet{
		{Kind: api.PackOffer, From: 1, To: 1}, {Kind: api.PackOffer, Data: []byte("no agent")}, {Kind: api.PackOffer},
		{Kind: api.PackYes, Data: []byte("more than a yes")}, {Kind: api.PackNo, Data: Bytes(offer())},
	} {
		parses(t, "right enough", Bytes(p), p)
	}
}
