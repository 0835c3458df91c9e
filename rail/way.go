package rail

import (
	"cmp"
	"slices"

	"hinterland/api"
)

// Next returns the spots at which one is behind leaving a spot.
func Next(r api.Rails, s api.Spot) ([]api.Spot, api.Errno) {
	if e := validateSpots(r, []api.Spot{s}); e != api.OK {
		return nil, e
	}
	return follow(r, s), api.OK
}

// Reach returns all spots that can be reached from some spots, if wired
// through wired tiles alone.
func Reach(r api.Rails, from []api.Spot, wired bool) ([]api.Spot, api.Errno) {
	if e := validateSpots(r, from); e != api.OK {
		return nil, e
	}
	reached := map[api.Spot]bool{}
	var list []api.Spot
	reach := func(spots []api.Spot) {
		for _, s := range spots {
			if reached[s] || wired && !r.Wired[s.Tile] {
				continue
			}
			reached[s] = true
			list = append(list, s)
		}
	}
	reach(from)
	for i := 0; i < len(list); i++ {
		reach(follow(r, list[i]))
	}
	slices.SortFunc(list, compare)
	return list, api.OK
}

// Loose returns all spots of all pieces behind which no piece lies.
func Loose(r api.Rails) ([]api.Spot, api.Errno) {
	if e := Validate(r); e != api.OK {
		return nil, e
	}
	var list []api.Spot
	for at := range r.W * r.H * pieces * sides {
		s := api.Spot{Tile: at / sides / pieces, Piece: at / sides % pieces, To: at % sides}
		if isSpot(r, s) && len(follow(r, s)) == 0 {
			list = append(list, s)
		}
	}
	return list, api.OK
}

// Way tells whether a list of spots is one way, which passes no piece twice.
func Way(r api.Rails, l []api.Spot) api.Errno {
	if e := validateSpots(r, l); e != api.OK {
		return e
	}
	for i, s := range l {
		if i > 0 && !slices.Contains(follow(r, l[i-1]), s) {
			return api.ErrFit
		}
	}
	passed := map[api.Spot]bool{}
	for _, s := range l {
		s.To = 0 // in whatever direction
		if passed[s] {
			return api.ErrTwice
		}
		passed[s] = true
	}
	return api.OK
}

// validateSpots returns Validate's errors, then those of the first spot that
// is none.
func validateSpots(r api.Rails, l []api.Spot) api.Errno {
	if e := Validate(r); e != api.OK {
		return e
	}
	for _, s := range l {
		if _, e := Back(s); e != api.OK {
			return e
		}
		if !isSpot(r, s) {
			return api.ErrNone
		}
	}
	return api.OK
}

// isSpot tells whether a spot's piece has its end there and lies on its tile.
func isSpot(r api.Rails, s api.Spot) bool {
	_, ok := across(s.Piece, s.To)
	return ok && isTile(r, s.Tile) && lies(r, s.Tile, s.Piece)
}

// follow returns the Next of a spot, ascending.
func follow(r api.Rails, s api.Spot) []api.Spot {
	tile := beyond(r, s.Tile, s.To)
	if tile < 0 {
		return nil
	}
	var list []api.Spot
	for piece := range pieces {
		to, ok := across(piece, opposite(s.To))
		if ok && lies(r, tile, piece) {
			list = append(list, api.Spot{Tile: tile, Piece: piece, To: to})
		}
	}
	return list
}

func opposite(side int) int {
	return (side + 2) % sides
}

// beyond returns the tile on a side of a tile, or -1 where the map ends.
func beyond(r api.Rails, tile, side int) int {
	x, y := tile%r.W, tile/r.W
	switch side {
	case east:
		x++
	case south:
		y++
	case west:
		x--
	case north:
		y--
	}
	if x < 0 || x >= r.W || y < 0 || y >= r.H {
		return -1
	}
	return y*r.W + x
}

func compare(a, b api.Spot) int {
	return cmp.Or(cmp.Compare(a.Tile, b.Tile), cmp.Compare(a.Piece, b.Piece), cmp.Compare(a.To, b.To))
}
