package cargo

import (
	"cmp"
	"maps"
	"slices"

	"hinterland/api"
)

// Join returns a load with the parcels of two loads.
func Join(a, b []api.Parcel) ([]api.Parcel, api.Errno) {
	if e := Validate(a); e != api.OK {
		return nil, e
	}
	if e := Validate(b); e != api.OK {
		return nil, e
	}
	return meet(slices.Concat(a, b))
}

// Older returns a load that is some days older.
func Older(load []api.Parcel, days int) ([]api.Parcel, api.Errno) {
	if e := Validate(load); e != api.OK {
		return nil, e
	}
	if days < 0 {
		return nil, api.ErrArg
	}
	older := slices.Clone(load)
	for i, p := range older {
		older[i].Age += min(days, api.MaxAge-p.Age)
	}
	return meet(older)
}

// Take returns the oldest n units of a kind of a load, and what is left of it.
func Take(load []api.Parcel, kind, n int) ([]api.Parcel, []api.Parcel, api.Errno) {
	if e := Validate(load); e != api.OK {
		return nil, nil, e
	}
	if n < 0 {
		return nil, nil, api.ErrArg
	}
	var taken, left []api.Parcel
	for i, count := range oldest(load, kind, n) {
		gone, kept := split(load[i], count)
		if gone.Count > 0 {
			taken = append(taken, gone)
		}
		if kept.Count > 0 {
			left = append(left, kept)
		}
	}
	return taken, left, api.OK
}

// Trim returns a load with the oldest n units of a kind and all of the others,
// and how many units are lost.
func Trim(load []api.Parcel, kind, n int) ([]api.Parcel, int, api.Errno) {
	taken, left, e := Take(load, kind, n)
	if e != api.OK {
		return nil, 0, e
	}
	lost := units(left, kind)
	others := slices.DeleteFunc(left, func(p api.Parcel) bool { return p.Kind == kind })
	return inOrder(slices.Concat(taken, others), byMark), lost, api.OK
}

// oldest returns how many units of each parcel are among the oldest n of a kind.
func oldest(load []api.Parcel, kind, n int) []int {
	var places []int
	for i, p := range load {
		if p.Kind == kind {
			places = append(places, i)
		}
	}
	byFallingAge := func(i, j int) int { return cmp.Compare(load[j].Age, load[i].Age) }
	counts := make([]int, len(load))
	for _, i := range inOrder(places, byFallingAge) {
		counts[i] = min(n, load[i].Count)
		n -= counts[i]
	}
	return counts
}

// split parts some units of a parcel from the others, with their part of its
// Share.
func split(p api.Parcel, count int) (gone, kept api.Parcel) {
	gone, kept = p, p
	gone.Count, gone.Share = count, p.Share*count/p.Count
	kept.Count, kept.Share = p.Count-gone.Count, p.Share-gone.Share
	return gone, kept
}

// meet returns the load of some parcels, of which those that are alike become
// one.
func meet(parcels []api.Parcel) ([]api.Parcel, api.Errno) {
	met := map[mark]api.Parcel{}
	for _, p := range parcels {
		other := met[markOf(p)]
		p.Count += other.Count
		p.Share += other.Share
		met[markOf(p)] = p
	}
	load := inOrder(slices.Collect(maps.Values(met)), byMark)
	tooMuch := func(p api.Parcel) bool { return p.Count > api.MaxCount || p.Share > api.MaxMoney }
	if len(load) > api.MaxParcels || slices.ContainsFunc(load, tooMuch) {
		return nil, api.ErrLarge
	}
	return load, api.OK
}

// inOrder returns a list in an order; what the order does not tell apart stays
// as it stands.
func inOrder[T any](list []T, compare func(a, b T) int) []T {
	list = slices.Clone(list)
	slices.SortStableFunc(list, compare)
	return list
}
