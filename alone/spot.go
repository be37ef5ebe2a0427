package alone

import (
	"wanderstaff/api"
	"wanderstaff/cell"
)

// spot tells what is wrong first with s, behind those ahead.
func spot(s api.Spot, ahead []api.Spot) api.Errno {
	if !between(len(s.Name), 1, api.MaxWord) || Find(ahead, s.Name) >= 0 {
		return api.ErrName
	}
	if !between(s.Fuel, 0, api.MaxFuel) || !between(s.Cells, 0, api.MaxCells) {
		return api.ErrRange
	}
	if len(s.Facts) > api.MaxFacts {
		return api.ErrMany
	}
	for _, f := range s.Facts {
		// a place has no cells, so a value that is one is Wrong too
		if len(f.Key) > api.MaxBytes || cell.Wrong(f.Value, 0) != api.OK {
			return api.ErrType
		}
	}
	return api.OK
}

func between(n, low, high int) bool { return n >= low && n <= high }
