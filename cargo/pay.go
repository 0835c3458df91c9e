package cargo

import (
	"slices"

	"hinterland/api"
)

// What is paid falls from fresh to stale with the days, and is divided by
// worth.
const (
	fresh = 255
	stale = 31
	worth = 4096
)

// Pay returns what is paid for units of a cargo that came far in some days.
func Pay(c api.Cargo, count, far, days int) (int, api.Errno) {
	if !isCargo(c) || !within(0, count, api.MaxCount) || !within(0, far, api.MaxCount) || !within(0, days, api.MaxAge) {
		return 0, api.ErrArg
	}
	return pay(c, count, far, days), api.OK
}

// Deliver returns what is paid for a load at a tile, and how much of it the
// feeders get.
func Deliver(cargoes []api.Cargo, load []api.Parcel, w, tile int) (int, int, api.Errno) {
	if e := validateTrip(cargoes, load, w, tile); e != api.OK {
		return 0, 0, e
	}
	paid, shares := 0, 0
	for _, p := range load {
		paid += pay(cargoes[p.Kind], p.Count, steps(w, p.Tile, tile), p.Age)
		shares += p.Share
	}
	if paid > api.MaxMoney {
		return 0, 0, api.ErrLimit
	}
	return paid, min(shares, paid), api.OK
}

// Transfer returns a load whose feeders are promised what would be paid for it
// at a tile, and how much more that is than they were promised.
func Transfer(cargoes []api.Cargo, load []api.Parcel, w, tile int) ([]api.Parcel, int, api.Errno) {
	if e := validateTrip(cargoes, load, w, tile); e != api.OK {
		return nil, 0, e
	}
	moved, grown := slices.Clone(load), 0
	for i, p := range load {
		paid := pay(cargoes[p.Kind], p.Count, steps(w, p.Tile, tile), p.Age)
		moved[i].Share = max(p.Share, paid)
		grown += moved[i].Share - p.Share
	}
	if grown > api.MaxMoney {
		return nil, 0, api.ErrLimit
	}
	return moved, grown, api.OK
}

// validateTrip tells what is wrong with a load of some cargoes that comes to a
// tile of a map with w columns.
func validateTrip(cargoes []api.Cargo, load []api.Parcel, w, tile int) api.Errno {
	if e := ValidateCargoes(cargoes); e != api.OK {
		return e
	}
	if e := Validate(load); e != api.OK {
		return e
	}
	unknown := func(p api.Parcel) bool { return p.Kind >= len(cargoes) }
	switch {
	case slices.ContainsFunc(load, unknown):
		return api.ErrNone
	case !within(api.MinSide, w, api.MaxSide) || !within(0, tile, api.MaxNumber):
		return api.ErrArg
	}
	return api.OK
}

// pay is Pay where all is as it must be; its product then fits 64 bits.
func pay(c api.Cargo, count, far, days int) int {
	f := fresh - max(0, days-c.Fast) - max(0, days-c.Fast-c.Slow)
	return min(c.Rate*count*far*max(f, stale)/worth, api.MaxMoney)
}

// steps returns how far two tiles of a map with w columns are apart.
func steps(w, a, b int) int {
	return apart(a%w, b%w) + apart(a/w, b/w)
}

func apart(a, b int) int {
	return max(a-b, b-a)
}
