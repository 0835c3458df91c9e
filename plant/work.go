package plant

import (
	"slices"

	"hinterland/api"
)

// Work returns a plant behind a day: a source has made what its level lets it.
func Work(kinds []api.PlantKind, p api.Plant) (api.Plant, api.Errno) {
	if e := Validate(kinds, p); e != api.OK {
		return api.Plant{}, e
	}
	p = copied(p)
	k := kinds[p.Kind]
	if !p.Open || !isSource(k) {
		return p, api.OK
	}
	for i, m := range k.Makes {
		n := min(m.Amount*p.Level/usualLevel, api.MaxCount-p.Stock[i])
		p.Stock[i] += n
		p.Made[i] = grown(p.Made[i], n)
	}
	return p, api.OK
}

// Bring returns a plant to which n units of a cargo are given, and how many of
// them it took.
func Bring(kinds []api.PlantKind, p api.Plant, cargo, n int) (api.Plant, int, api.Errno) {
	if e := validateUnits(kinds, p, cargo, n); e != api.OK {
		return api.Plant{}, 0, e
	}
	p = copied(p)
	k := kinds[p.Kind]
	if !p.Open || !slices.Contains(k.Takes, cargo) {
		return p, 0, api.OK
	}
	for i, m := range k.Makes {
		all := p.Rest[i] + n*m.Amount
		p.Stock[i] = grown(p.Stock[i], all/eighths)
		p.Made[i] = grown(p.Made[i], all/eighths)
		p.Rest[i] = all % eighths
	}
	p.Got = grown(p.Got, n)
	return p, n, api.OK
}

// Haul returns a plant from whose stock at most n units of a cargo are taken,
// and how many they are.
func Haul(kinds []api.PlantKind, p api.Plant, cargo, n int) (api.Plant, int, api.Errno) {
	if e := validateUnits(kinds, p, cargo, n); e != api.OK {
		return api.Plant{}, 0, e
	}
	p = copied(p)
	i := slices.Index(made(kinds[p.Kind]), cargo)
	if i < 0 {
		return p, 0, api.OK
	}
	n = min(n, p.Stock[i])
	p.Stock[i] -= n
	p.Moved[i] = grown(p.Moved[i], n)
	return p, n, api.OK
}

// validateUnits tells what is wrong with a plant and with n units of a cargo.
func validateUnits(kinds []api.PlantKind, p api.Plant, cargo, n int) api.Errno {
	if e := Validate(kinds, p); e != api.OK {
		return e
	}
	if !within(0, n, api.MaxCount) || !isCargo(cargo) {
		return api.ErrArg
	}
	return api.OK
}

// grown returns a count that has grown by n, as far as a count can.
func grown(count, n int) int {
	return min(count+n, api.MaxCount)
}

// copied returns a plant with lists of its own, which may be changed.
func copied(p api.Plant) api.Plant {
	p.Stock = copyOf(p.Stock)
	p.Rest = copyOf(p.Rest)
	p.Made = copyOf(p.Made)
	p.Moved = copyOf(p.Moved)
	return p
}

func copyOf(list []int) []int {
	own := make([]int, len(list))
	copy(own, list)
	return own
}
