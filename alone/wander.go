package alone

import (
	"wanderstaff/api"
	"wanderstaff/vm"
)

// enough steps for any agent to come to something: its fuel ends ahead of them, so it never rests.
const enough = api.MaxFuel + 1

// wander has a go on from place at of l until it ends.
func wander(a api.Agent, l []api.Spot, at int) (said []string, end api.End) {
	comeTo := func(to int) bool {
		if to < 0 || to == at {
			return false
		}
		b, in := Let(a, l[to])
		if in {
			a, at = b, to
		}
		return in
	}
	for {
		var e api.Event
		a, e = vm.Run(a, l[at], enough)
		switch e.Kind {
		case api.EvSay:
			said = append(said, e.Text)
		case api.EvGo:
			if !comeTo(Find(l, e.Text)) {
				a = vm.Answer(a, 0)
			}
		case api.EvDone, api.EvDead:
			return said, api.End{Text: e.Text, Err: e.Err}
		}
	}
}
