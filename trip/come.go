package trip

import (
	"slices"

	"wanderstaff/alone"
	"wanderstaff/api"
	"wanderstaff/image"
	"wanderstaff/vm"
)

// offered is p, of memory of its own, at s, when the offer x has come, and what is said to it.
func offered(p api.Place, s api.Spot, x api.Packet) (api.Place, []api.Packet) {
	say := func(yes bool) []api.Packet {
		kind := api.PackNo
		if yes {
			kind = api.PackYes
		}
		return []api.Packet{{Kind: kind, From: x.To, To: x.From, ID: x.ID, Trip: x.Trip}}
	}
	i := slices.IndexFunc(p.Seen, func(e api.Seen) bool { return e.ID == x.ID })
	if i >= 0 && p.Seen[i].Trip > x.Trip {
		// it has set out again since: whatever of the earlier trip waits yet need wait no longer
		return p, say(true)
	}
	if i >= 0 && p.Seen[i].Trip == x.Trip {
		return p, say(p.Seen[i].Yes)
	}
	a, err := image.Parse(x.Data)
	if err != api.OK || a.ID != x.ID || a.Trip != x.Trip {
		return p, nil
	}
	a, in := alone.Let(a, s)
	if in {
		p.Agents = append(p.Agents, a)
	}
	if i < 0 {
		i = len(p.Seen)
		p.Seen = append(p.Seen, api.Seen{})
	}
	p.Seen[i] = api.Seen{ID: x.ID, Trip: x.Trip, Yes: in}
	return p, say(in)
}

// answered is p, of memory of its own, when x has come, that answers an offer: whom it means waits no longer.
func answered(p api.Place, x api.Packet) api.Place {
	for i, a := range p.Away {
		if a.ID != x.ID || a.Trip != x.Trip || p.Whom[i] != x.From {
			continue
		}
		p.Away, p.Whom = slices.Delete(p.Away, i, i+1), slices.Delete(p.Whom, i, i+1)
		if x.Kind == api.PackNo {
			p.Agents = append(p.Agents, vm.Answer(a, 0))
		}
		return p
	}
	return p
}
