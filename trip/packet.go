package trip

import (
	"wanderstaff/api"
	"wanderstaff/wire"
)

// Bytes is p, and behind it the sum of all that is ahead.
func Bytes(p api.Packet) []byte {
	var b []byte
	for _, n := range [...]int{p.Kind, p.From, p.To, p.ID, p.Trip} {
		b = wire.Num(b, n)
	}
	b = wire.Text(b, string(p.Data))
	return wire.Num(b, wire.Sum(b))
}

// Parse is the packet of which b is the bytes, or what is wrong with them first.
func Parse(b []byte) (api.Packet, api.Errno) {
	at, err := 0, api.OK
	// once there is an error nothing more is read, so that the first one stays
	num := func() (n int) {
		if err == api.OK {
			size := 0
			n, size, err = wire.GetNum(b[at:])
			at += size
		}
		return n
	}
	data := func() (s string) {
		if err == api.OK {
			size := 0
			// the chapter bounds Data by no number of its own: b, which has it, is the bound
			s, size, err = wire.GetText(b[at:], len(b))
			at += size
		}
		return s
	}
	p := api.Packet{Kind: num(), From: num(), To: num(), ID: num(), Trip: num(), Data: []byte(data())}
	ahead := at
	sum := num()
	if err != api.OK {
		return api.Packet{}, err
	}
	if at < len(b) || sum != wire.Sum(b[:ahead]) {
		return api.Packet{}, api.ErrForm
	}
	if !mayBe(p) {
		return api.Packet{}, api.ErrRange
	}
	return p, api.OK
}

// mayBe tells whether the numbers of p are those of a packet. What is in Data is looked at by whom it comes to.
func mayBe(p api.Packet) bool {
	return between(p.Kind, api.PackOffer, api.PackNo) &&
		between(p.From, 0, api.MaxSpots-1) && between(p.To, 0, api.MaxSpots-1) &&
		p.ID >= 0 && p.Trip >= 0
}

func between(n, low, high int) bool { return n >= low && n <= high }
