package trip

import (
	"fmt"
	"math/rand"
	"slices"
	"testing"

	"wanderstaff/alone"
	"wanderstaff/api"
	"wanderstaff/image"
	"wanderstaff/verify"
	"wanderstaff/vm"
	"wanderstaff/wire"
)

// slowParse reads the chapter's words a second time: all parts first, then what is wrong with them.
func slowParse(b []byte) (api.Packet, api.Errno) {
	var n [7]int
	var data string
	rest, ahead := b, b
	for i := range n {
		var size int
		var err api.Errno
		ahead = b[:len(b)-len(rest)]
		if i == 5 {
			data, size, err = wire.GetText(rest, len(b))
		} else {
			n[i], size, err = wire.GetNum(rest)
		}
		if err != api.OK {
			return api.Packet{}, err
		}
		rest = rest[size:]
	}
	if len(rest) != 0 || wire.Sum(ahead) != n[6] {
		return api.Packet{}, api.ErrForm
	}
	if n[0] != 1 && n[0] != 2 && n[0] != 3 || n[1] < 0 || n[1] > 3 || n[2] < 0 || n[2] > 3 || n[3] < 0 || n[4] < 0 {
		return api.Packet{}, api.ErrRange
	}
	return api.Packet{Kind: n[0], From: n[1], To: n[2], ID: n[3], Trip: n[4], Data: []byte(data)}, api.OK
}

func TestJ1ParseSlow(t *testing.T) {
	r := rand.New(rand.NewSource(2))
	some := []byte{0, 1, 2, 4, 6, 7, 8, 0x7f, 0x80, 0x81, 0xff}
	times := map[api.Errno]int{}
	for range 100000 {
		pick := func() int { return r.Intn(6) - r.Intn(2) }
		p := api.Packet{Kind: 1 + r.Intn(3), From: pick(), To: pick(), ID: r.Intn(1 << 8), Trip: pick(), Data: make([]byte, r.Intn(9))}
		b := Bytes(p)
		for range r.Intn(3) {
			i := r.Intn(len(b))
			switch x := some[r.Intn(len(some))]; r.Intn(4) {
			case 0:
				b = slices.Insert(b, i, x)
			case 1:
				b = b[:i+1]
			default:
				b[i] = x
			}
		}
		if r.Intn(2) == 0 {
			b = append(nums(p.Kind, p.From, p.To, p.ID, p.Trip, len(p.Data)), p.Data...)
			b[r.Intn(len(b))] = some[r.Intn(len(some))]
			b = seal(b)
		}
		got, err := Parse(b)
		want, wantErr := slowParse(b)
		if err != wantErr || whole(got) != whole(want) {
			t.Fatalf("% x: %+v, %d comes, not %+v, %d", b, got, err, want, wantErr)
		}
		times[err]++
	}
	for _, err := range []api.Errno{api.OK, api.ErrForm, api.ErrRange, api.ErrMuch, api.ErrEnd} {
		if times[err] < 500 {
			t.Errorf("%d came %d times", err, times[err])
		}
	}
}

// slowCome reads the chapter's words a second time: who was seen, and who has set out, is found by going through all.
func slowCome(p api.Place, s api.Spot, x api.Packet) (q api.Place, said []api.Packet) {
	q.Down, q.Agents, q.Seen = p.Down, slices.Clone(p.Agents), slices.Clone(p.Seen)
	for i, a := range p.Away {
		if x.Kind != api.PackOffer && a.ID == x.ID && a.Trip == x.Trip && p.Whom[i] == x.From {
			if x.Kind == api.PackNo {
				a = vm.Own(a)
				f := &a.Frames[len(a.Frames)-1]
				f.Stack = append(f.Stack, num(0))
				q.Agents = append(q.Agents, a)
			}
			continue
		}
		q.Away, q.Whom = append(q.Away, a), append(q.Whom, p.Whom[i])
	}
	if x.Kind != api.PackOffer {
		return q, nil
	}
	was, at := api.Seen{Trip: -1}, len(q.Seen)
	for i, e := range q.Seen {
		if e.ID == x.ID {
			was, at = e, i
		}
	}
	yes := was.Yes || was.Trip > x.Trip
	if was.Trip < x.Trip {
		a, err := image.Parse(x.Data)
		if err != api.OK || [2]int{a.ID, a.Trip} != [2]int{x.ID, x.Trip} {
			return q, nil
		}
		a, yes = alone.Let(a, s)
		if yes {
			q.Agents = append(q.Agents, a)
		}
		q.Seen = slices.Concat(q.Seen[:at], []api.Seen{{ID: x.ID, Trip: x.Trip, Yes: yes}}, q.Seen[min(at+1, len(q.Seen)):])
	}
	kinds := map[bool]int{true: api.PackYes, false: api.PackNo}
	return q, []api.Packet{{Kind: kinds[yes], From: x.To, To: x.From, ID: x.ID, Trip: x.Trip}}
}

// net is places, and packets between them, that may be lost, come twice, or late.
type net struct {
	t      *testing.T
	r      *rand.Rand
	spots  []api.Spot
	places []api.Place
	wire   [][]byte
	said   map[int][]string
	ends   map[int]api.End
	count  int
	times  map[string]int // how often something came about
}

func (n *net) send(l ...api.Packet) {
	for _, x := range l {
		n.wire = append(n.wire, Bytes(x))
	}
}

// run has the first one of a place go on.
func (n *net) run(at, most int) {
	p := Own(n.places[at])
	if len(p.Agents) == 0 {
		return
	}
	a, e := vm.Run(p.Agents[0], n.spots[at], most)
	p.Agents = p.Agents[1:]
	switch e.Kind {
	case api.EvSay:
		n.said[a.ID] = append(n.said[a.ID], e.Text)
	case api.EvDone, api.EvDead:
		n.ends[a.ID] = api.End{Text: e.Text, Err: e.Err}
		n.places[at] = p
		return
	case api.EvGo:
		if to := alone.Find(n.spots, e.Text); to >= 0 && to != at {
			n.places[at] = Leave(p, a, to)
			l := Offers(n.places[at], at)
			n.send(l[len(l)-1])
			return
		}
		a = vm.Answer(a, 0)
	}
	p.Agents = append(p.Agents, a)
	n.places[at] = p
}

// hear has packet i come; what comes of it is held against the slow reading.
func (n *net) hear(i int) {
	x, err := Parse(n.wire[i])
	n.wire = slices.Delete(n.wire, i, i+1)
	if err != api.OK || x.To >= len(n.places) {
		n.times["nothing"]++
		return
	}
	p, s := n.places[x.To], n.spots[x.To]
	q, said := Come(p, s, x)
	want, wantSaid := slowCome(p, s, x)
	if whole(q) != whole(want) || whole(said) != whole(wantSaid) {
		n.t.Fatalf("%+v at %+v: %+v, %+v comes, not %+v, %+v", x, p, q, said, want, wantSaid)
	}
	if len(q.Agents) > len(p.Agents) {
		n.times[fmt.Sprint("in by ", x.Kind)]++
	} else {
		n.times[fmt.Sprint("kind ", x.Kind, ", and away ", len(q.Away)-len(p.Away))]++
	}
	n.places[x.To] = q
	n.send(said...)
}

// mischief is one of all that may come about.
func (n *net) mischief() {
	at := n.r.Intn(len(n.places))
	switch n.r.Intn(8) {
	case 0, 1:
		n.run(at, 1+n.r.Intn(60))
	case 2:
		n.send(Offers(n.places[at], at)...)
	}
	if len(n.wire) == 0 {
		return
	}
	i := n.r.Intn(len(n.wire))
	switch n.r.Intn(8) {
	case 0, 1, 2:
		n.hear(i)
	case 3:
		n.wire = append(n.wire, n.wire[i])
	case 4:
		n.wire = slices.Delete(n.wire, i, i+1)
	case 5:
		if b := slices.Clone(n.wire[i]); n.r.Intn(4) == 0 {
			b[n.r.Intn(len(b))] ^= 1 << n.r.Intn(8)
			n.wire[i] = b
		}
	}
	for len(n.wire) > 30 {
		n.wire = slices.Delete(n.wire, 0, 1)
	}
}

// fair is a round in which nothing is lost.
func (n *net) fair() {
	for at := range n.places {
		for len(n.places[at].Agents) > 0 {
			n.run(at, 2001)
		}
	}
	for at := range n.places {
		n.send(Offers(n.places[at], at)...)
	}
	for len(n.wire) > 0 {
		n.hear(0)
	}
}

// look asks that each one goes on at one place alone, waits to go on, or has ended, and is right.
func (n *net) look() {
	n.t.Helper()
	homes := make([]int, n.count)
	for id := range n.ends {
		homes[id]++
	}
	for _, p := range n.places {
		for _, a := range p.Agents {
			homes[a.ID]++
			if err := verify.Agent(a, false); err != api.OK {
				n.t.Fatalf("%d is wrong with %+v", err, a)
			}
		}
		if len(p.Whom) != len(p.Away) {
			n.t.Fatalf("%d have set out, to %+v", len(p.Away), p.Whom)
		}
		for i, a := range p.Away {
			if err := verify.Agent(a, true); err != api.OK {
				n.t.Fatalf("%d is wrong with %+v", err, a)
			}
			if !n.arrived(a, p.Whom[i]) {
				homes[a.ID]++
			}
		}
	}
	for id, count := range homes {
		if count != 1 {
			n.t.Fatalf("%d is in %d places: %+v", id, count, n.places)
		}
	}
}

// arrived tells whether a, that waits yet, has come to a place.
func (n *net) arrived(a api.Agent, to int) bool {
	seen := map[int]bool{}
	for _, e := range n.places[to].Seen {
		if seen[e.ID] {
			n.t.Fatalf("%d was seen twice: %+v", e.ID, n.places[to].Seen)
		}
		seen[e.ID] = true
		if e.ID == a.ID {
			return e.Trip > a.Trip || e.Trip == a.Trip && e.Yes
		}
	}
	return false
}

func (n *net) done() bool {
	return !slices.ContainsFunc(n.places, func(p api.Place) bool { return len(p.Agents)+len(p.Away) > 0 })
}

func texts() []string {
	return []string{
		"(main () (say (go 'b')) (say (here)) (return 7))",
		"(main () (let n (ask 'price')) (do (go 'b')) (set n (+ n (ask 'price'))) (say n) (do (go 'c')) (return (here)))",
		"(main () (let x (cell 1 'a')) (let y (cell x x)) (putr x y) (do (go 'c')) (putl (left y) 7) (say y) (say (= (left y) (right y))))",
		"(main () (say (down 3)) (return (here)))(down (n) (if (= n 0) ((do (go 'b')) (return 'end')) ()) (return (cell n (down (- n 1)))))",
		"(main () (let n 0) (while (< n 3) (say (go 'b')) (say (go 'a')) (set n (+ n 1))))",
		"(main () (while 1 (say (go (ask 'next'))) (say (here))))",
		"(main () (let x 0) (while 1 (set x (cell (here) x)) (if (go 'b') ((say x)) ((do (go 'a'))))))",
		"(main () (let x (cell 1 (cell 2 (cell 3 (cell 4 5))))) (while x (say (cell (here) (cell (go 'c') (go 'd')))) (set x (right x))))",
		"(main () (return (f 3)))(f (n) (if (= n 0) ((return (here))) ()) (say (go 'a')) (let s (f (- n 1))) (say (go 'b')) (say (go 'c')) (return (+ s (here))))",
		"(main () (do (go 'c')) (do (left (go 'a'))))",
	}
}

// spotsOf are places of which some let in few, or cut much.
func spotsOf(r *rand.Rand) (l []api.Spot) {
	for i, name := range []string{"a", "b", "c", "d"}[:2+r.Intn(3)] {
		next := []string{"b", "c", "d", "a"}[i]
		l = append(l, api.Spot{Name: name, Fuel: 2000 >> r.Intn(5), Cells: 60 >> r.Intn(7), Facts: []api.Fact{{Key: "price", Value: num(i)}, {Key: "next", Value: txt(next)}}})
	}
	return l
}

// Whatever is lost, comes twice, or late: each one goes on at one place alone, and says what it would say if going were nothing.
func TestJ2AsIfGoingWereNothing(t *testing.T) {
	r := rand.New(rand.NewSource(3))
	times := map[string]int{}
	for range 400 {
		n := &net{t: t, r: r, spots: spotsOf(r), said: map[int][]string{}, ends: map[int]api.End{}, times: times}
		n.places = make([]api.Place, len(n.spots))
		var want []string
		for id := range 1 + r.Intn(4) {
			p := mustMake(t, texts()[r.Intn(len(texts()))])
			permit := api.Permit{Fuel: r.Intn(400), Cells: r.Intn(20), Hops: r.Intn(13)}
			at := r.Intn(len(n.spots))
			said, end, _ := alone.Run(p, permit, n.spots, at)
			want = append(want, fmt.Sprintf("%q %+v", said, end))
			n.places[at].Agents = append(n.places[at].Agents, vm.New(id, p, permit))
			n.count++
		}
		for range 20 + r.Intn(200) {
			n.mischief()
			n.look()
		}
		for rounds := 0; !n.done(); rounds++ {
			if rounds == 60 {
				t.Fatalf("it does not end: %+v", n.places)
			}
			n.fair()
			n.look()
		}
		for id, w := range want {
			same(t, fmt.Sprint(n.spots), fmt.Sprintf("%q %+v", n.said[id], n.ends[id]), w)
		}
	}
	for _, what := range []string{"nothing", "in by 1", "in by 3", "kind 1, and away 0", "kind 2, and away -1", "kind 2, and away 0", "kind 3, and away 0"} {
		if times[what] < 50 {
			t.Errorf("%s: %d times", what, times[what])
		}
	}
}
