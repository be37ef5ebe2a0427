package trip

import (
	"fmt"
	"math"
	"slices"
	"testing"

	"wanderstaff/api"
	"wanderstaff/image"
	"wanderstaff/verify"
	"wanderstaff/vm"
)

// roomy is a place where anybody is let in, and keeps its fuel.
func roomy() api.Spot { return api.Spot{Name: "b", Fuel: 2000, Cells: 60} }

// offerOf is the offer of a, from place 0 to place 2.
func offerOf(a api.Agent) api.Packet {
	return api.Packet{Kind: api.PackOffer, From: 0, To: 2, ID: a.ID, Trip: a.Trip, Data: image.Bytes(a)}
}

// says is what is said to such an offer.
func says(kind, id, trip int) []api.Packet {
	return []api.Packet{{Kind: kind, From: 2, To: 0, ID: id, Trip: trip}}
}

// comes asks what comes of a packet, and also fails if anything that is handed in changes.
func comes(t *testing.T, what string, p api.Place, s api.Spot, x api.Packet, want api.Place, said []api.Packet) {
	t.Helper()
	before := whole([]any{p, s, x})
	q, l := Come(p, s, x)
	same(t, what, whole(q), whole(want))
	same(t, what+": what is said", whole(l), whole(said))
	same(t, what+": what is handed in", whole([]any{p, s, x}), before)
}

func TestJ2OfferLetIn(t *testing.T) {
	for _, fuel := range []int{0, 99, 100, 101, 2000} {
		s := api.Spot{Name: "b", Fuel: fuel, Cells: 2}
		want := api.Place{Agents: []api.Agent{come(t, min(fuel, 100))}, Seen: []api.Seen{{ID: 7, Trip: 3, Yes: true}}}
		comes(t, "let in", api.Place{}, s, offerOf(gone(t)), want, says(api.PackYes, 7, 3))
	}
}

func TestJ2OfferNotLetIn(t *testing.T) {
	for _, cells := range []int{0, 1} {
		s := api.Spot{Name: "b", Fuel: 2000, Cells: cells}
		want := api.Place{Seen: []api.Seen{{ID: 7, Trip: 3}}}
		comes(t, "not let in", api.Place{}, s, offerOf(gone(t)), want, says(api.PackNo, 7, 3))
	}
}

// Who comes is last, behind those that go on; others that were seen, or have set out, stay as they are.
func TestJ2OfferIsLast(t *testing.T) {
	want := busy(t)
	want.Agents = append(want.Agents, come(t, 100))
	want.Seen = append(want.Seen, api.Seen{ID: 7, Trip: 3, Yes: true})
	comes(t, "let in", busy(t), roomy(), offerOf(gone(t)), want, says(api.PackYes, 7, 3))
	want = busy(t)
	want.Seen = append(want.Seen, api.Seen{ID: 7, Trip: 3})
	comes(t, "not let in", busy(t), api.Spot{}, offerOf(gone(t)), want, says(api.PackNo, 7, 3))
	down := busy(t)
	down.Down, want.Down = true, true
	comes(t, "not let in, and down", down, api.Spot{}, offerOf(gone(t)), want, says(api.PackNo, 7, 3))
}

// What is said goes to whom the packet is from, as from whom it is to, whoever they are.
func TestJ2SaysToWhomItIsFrom(t *testing.T) {
	for _, from := range []int{math.MinInt, -1, 0, 1, 3, 4, math.MaxInt} {
		for _, to := range []int{-1, 0, 2, 3, 99} {
			x := offerOf(gone(t))
			x.From, x.To = from, to
			for kind, s := range map[int]api.Spot{api.PackYes: roomy(), api.PackNo: {}} {
				want := []api.Packet{{Kind: kind, From: to, To: from, ID: 7, Trip: 3}}
				p, l := Come(api.Place{}, s, x)
				same(t, "at first", whole(l), whole(want))
				_, l = Come(p, s, x)
				same(t, "again", whole(l), whole(want))
				x.Trip = 2
				_, l = Come(p, s, x)
				same(t, "an earlier one", whole(l), whole([]api.Packet{{Kind: api.PackYes, From: to, To: from, ID: 7, Trip: 2}}))
				x.Trip = 3
			}
		}
	}
}

// Once is enough: the same trip is answered as it was, whatever place, spot and data are by now.
func TestJ2OfferAgain(t *testing.T) {
	p := busy(t)
	p.Seen = append(p.Seen, api.Seen{ID: 7, Trip: 3, Yes: true}, api.Seen{ID: 8, Trip: 3})
	for _, s := range []api.Spot{roomy(), {}} {
		for _, data := range [][]byte{image.Bytes(gone(t)), image.Bytes(small(t, 8, 3)), nil, []byte("no agent")} {
			x := api.Packet{Kind: api.PackOffer, From: 0, To: 2, ID: 7, Trip: 3, Data: data}
			comes(t, "it was let in", p, s, x, p, says(api.PackYes, 7, 3))
			x.ID = 8
			comes(t, "it was not let in", p, s, x, p, says(api.PackNo, 8, 3))
		}
	}
}

// Who was seen on a later trip may go from where it waits yet, whatever was said to the later one.
func TestJ2OfferOfEarlierTrip(t *testing.T) {
	for _, yes := range []bool{true, false} {
		p := busy(t)
		p.Seen = append(p.Seen, api.Seen{ID: 7, Trip: 3, Yes: yes})
		for _, trip := range []int{2, 1, 0, -1, math.MinInt} {
			x := offerOf(gone(t))
			x.Trip = trip
			comes(t, "earlier", p, roomy(), x, p, says(api.PackYes, 7, trip))
			x.Data = nil
			comes(t, "earlier, without data", p, api.Spot{}, x, p, says(api.PackYes, 7, trip))
		}
	}
}

// A later trip is a new one, that is seen in the place of the earlier one.
func TestJ2OfferOfLaterTrip(t *testing.T) {
	for i := range 3 {
		for _, yes := range []bool{true, false} {
			for _, trip := range []int{2, 0, -1} {
				p := busy(t)
				p.Seen = slices.Insert(p.Seen, i, api.Seen{ID: 7, Trip: trip, Yes: yes})
				want := Own(p)
				want.Agents = append(want.Agents, come(t, 100))
				want.Seen[i] = api.Seen{ID: 7, Trip: 3, Yes: true}
				comes(t, "let in", p, roomy(), offerOf(gone(t)), want, says(api.PackYes, 7, 3))
				want = Own(p)
				want.Seen[i] = api.Seen{ID: 7, Trip: 3}
				comes(t, "not let in", p, api.Spot{}, offerOf(gone(t)), want, says(api.PackNo, 7, 3))
			}
		}
	}
}

// Of data that are not those of such an agent nothing comes: it is not even seen.
func TestJ2OfferOfNobody(t *testing.T) {
	b := image.Bytes(gone(t))
	bad := map[string]api.Packet{}
	put := func(what string, id, trip int, data []byte) {
		bad[what] = api.Packet{Kind: api.PackOffer, From: 0, To: 2, ID: id, Trip: trip, Data: data}
	}
	put("another ID", 6, 3, b)
	put("another ID below 0", -7, 3, b)
	put("a later trip", 7, 4, b)
	put("an earlier trip", 7, 2, b)
	put("ID and trip the wrong way round", 3, 7, b)
	put("no data", 7, 3, nil)
	put("data without entries", 7, 3, []byte{})
	put("a part", 7, 3, b[:len(b)-1])
	put("more", 7, 3, append(slices.Clip(b), 0))
	put("another byte", 7, 3, append([]byte{b[0] ^ 2}, b[1:]...))
	put("who is not away", 7, 3, image.Bytes(come(t, 9)))
	put("a packet", 7, 3, Bytes(offerOf(gone(t))))
	for what, x := range bad {
		comes(t, what, api.Place{}, roomy(), x, api.Place{}, nil)
		comes(t, what+", to a busy place", busy(t), roomy(), x, busy(t), nil)
		comes(t, what+", where it would not be let in", busy(t), api.Spot{}, x, busy(t), nil)
		if x.Trip > 2 {
			p := busy(t)
			p.Seen = append(p.Seen, api.Seen{ID: 7, Trip: 2}, api.Seen{ID: 6, Trip: 1}, api.Seen{ID: 3, Trip: 1, Yes: true}, api.Seen{ID: -7})
			comes(t, what+", that was seen", p, roomy(), x, p, nil)
		}
	}
}

// Who goes on here, or has set out from here, is no matter to an offer: what was seen counts alone.
func TestJ2OfferAsksSeenAlone(t *testing.T) {
	p := api.Place{Agents: []api.Agent{come(t, 9)}, Away: []api.Agent{gone(t)}, Whom: []int{0}}
	want := Own(p)
	want.Agents = append(want.Agents, come(t, 100))
	want.Seen = []api.Seen{{ID: 7, Trip: 3, Yes: true}}
	comes(t, "it is there", p, roomy(), offerOf(gone(t)), want, says(api.PackYes, 7, 3))
}

// An answer means who has set out on that trip, to whom it is from: that one goes, and with No it is back.
func TestJ2Answers(t *testing.T) {
	for i, x := range []api.Packet{{From: 1, ID: 3, Trip: 1}, {From: 2, ID: 7, Trip: 3}, {From: 3, ID: 3, Trip: 4}} {
		want := busy(t)
		want.Away, want.Whom = slices.Delete(want.Away, i, i+1), slices.Delete(want.Whom, i, i+1)
		x.Kind = api.PackYes
		comes(t, "yes", busy(t), roomy(), x, want, nil)
		comes(t, "yes, again", want, roomy(), x, want, nil)
		none := want
		stays := []api.Agent{here(t, 3, 1, 0), back(t), here(t, 3, 4, 0)}[i]
		want.Agents = append(want.Agents, stays)
		x.Kind = api.PackNo
		comes(t, "no", busy(t), roomy(), x, want, nil)
		comes(t, "no, again", want, roomy(), x, want, nil)
		comes(t, "no, after yes", none, roomy(), x, none, nil)
		x.Kind = api.PackYes
		comes(t, "yes, after no", want, roomy(), x, want, nil)
	}
}

// Neither where the place is, nor what else a packet has, is a matter to an answer.
func TestJ2AnswersAskNothingElse(t *testing.T) {
	for _, s := range []api.Spot{{}, roomy(), {Fuel: 1, Cells: -1}} {
		for _, to := range []int{-1, 0, 2, 99} {
			for _, data := range [][]byte{nil, []byte("no agent"), image.Bytes(gone(t))} {
				p := api.Place{Away: []api.Agent{gone(t)}, Whom: []int{2}, Seen: []api.Seen{{ID: 7, Trip: 9, Yes: true}}, Down: true}
				x := api.Packet{Kind: api.PackYes, From: 2, To: to, ID: 7, Trip: 3, Data: data}
				comes(t, "yes", p, s, x, api.Place{Seen: p.Seen, Down: true}, nil)
				x.Kind = api.PackNo
				comes(t, "no", p, s, x, api.Place{Agents: []api.Agent{back(t)}, Seen: p.Seen, Down: true}, nil)
			}
		}
	}
}

// Who is not meant is not touched.
func TestJ2AnswersToNobody(t *testing.T) {
	for kind := api.PackYes; kind <= api.PackNo; kind++ {
		for _, x := range []api.Packet{
			{From: 1, ID: 7, Trip: 3}, {From: 0, ID: 7, Trip: 3}, {From: -1, ID: 7, Trip: 3}, {From: 3, To: 2, ID: 7, Trip: 3},
			{From: 2, ID: 6, Trip: 3}, {From: 2, ID: 3, Trip: 3}, {From: 2, ID: -7, Trip: 3},
			{From: 2, ID: 7, Trip: 2}, {From: 2, ID: 7, Trip: 4}, {From: 2, ID: 7, Trip: -3}, {From: 2, ID: 3, Trip: 7},
			{From: 1, ID: 3, Trip: 4}, {From: 3, ID: 3, Trip: 1},
			// these go on, or were seen, but have not set out
			{From: 0, ID: 1, Trip: 1}, {From: 1, ID: 2, Trip: 0}, {From: 2, ID: 5, Trip: 2},
			{}, {From: math.MaxInt, To: math.MinInt, ID: math.MinInt, Trip: math.MaxInt},
		} {
			x.Kind = kind
			comes(t, fmt.Sprintf("%+v", x), busy(t), roomy(), x, busy(t), nil)
			comes(t, fmt.Sprintf("%+v to an empty place", x), api.Place{}, roomy(), x, api.Place{}, nil)
		}
	}
}

// A kind that there is not is none: neither offers nor answers come of it.
func TestJ2NoKind(t *testing.T) {
	for _, kind := range []int{math.MinInt, -1, 0, 4, 5, math.MaxInt} {
		x := offerOf(gone(t))
		x.Kind = kind
		comes(t, "like an offer", busy(t), roomy(), x, busy(t), nil)
		x.From = 2
		comes(t, "like an answer", busy(t), roomy(), x, busy(t), nil)
	}
}

// The one that comes has gone there, and the one that is back has not.
func TestJ2GoesOn(t *testing.T) {
	p := mustMake(t, "(main () (let x (cell 1 2)) (say (go 'b')) (say (here)) (return x))")
	a, e := vm.Run(vm.New(4, p, api.Permit{Fuel: 50, Cells: 5, Hops: 2}), api.Spot{Name: "a"}, 99)
	if e != (api.Event{Kind: api.EvGo, Text: "b"}) {
		t.Fatalf("%+v comes", e)
	}
	from := Leave(api.Place{}, a, 2)
	for _, s := range []api.Spot{{Name: "b", Fuel: 30, Cells: 1}, {Name: "b", Fuel: 30}} {
		to, l := Come(api.Place{}, s, Offers(from, 0)[0])
		left, more := Come(from, api.Spot{Name: "a"}, l[0])
		if len(more) != 0 || len(left.Away) != 0 || len(left.Whom) != 0 || len(left.Agents)+len(to.Agents) != 1 {
			t.Fatalf("%+v and %+v come, and %+v is said", left, to, more)
		}
		where, want := to, []string{"1", "b", "(1 2)"}
		if s.Cells == 0 {
			where, s, want = left, api.Spot{Name: "a"}, []string{"0", "a", "(1 2)"}
		}
		a := where.Agents[0]
		if a.Trip != 1 || verify.Agent(a, false) != api.OK {
			t.Errorf("%+v comes", a)
		}
		var got []string
		for e.Kind = api.EvSay; e.Kind == api.EvSay; {
			a, e = vm.Run(a, s, 99)
			got = append(got, e.Text)
		}
		if !slices.Equal(got, want) || e.Kind != api.EvDone {
			t.Errorf("%q %+v comes, not %q", got, e, want)
		}
	}
}
