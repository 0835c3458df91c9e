package land

import (
	"slices"

	"hinterland/api"
)

// Shift raises or lowers a corner by 1, with the corners that must follow it.
func Shift(l api.Land, x, y int, up bool, held []int) (api.Land, []api.Corner, int, api.Errno) {
	if e := Validate(l); e != api.OK {
		return api.Land{}, nil, 0, e
	}
	if x < 0 || x > l.W || y < 0 || y > l.H {
		return api.Land{}, nil, 0, api.ErrNone
	}
	step := -1
	if up {
		step = 1
	}
	s := open(l, held)
	list, e := s.shift(x, y, step)
	if e != api.OK {
		return api.Land{}, nil, 0, e
	}
	return s.land, list, cost(list), api.OK
}

// Level brings the corners of tiles to a height, one behind the other.
func Level(l api.Land, tiles []int, height int, held []int) (api.Land, int, api.Errno) {
	if e := Validate(l); e != api.OK {
		return api.Land{}, 0, e
	}
	if !isHeight(height) || len(tiles) > api.MaxList {
		return api.Land{}, 0, api.ErrArg
	}
	for _, tile := range tiles {
		if !isTile(l, tile) {
			return api.Land{}, 0, api.ErrNone
		}
	}
	s := open(l, held)
	sum := 0
	for _, tile := range tiles {
		for _, place := range places(l, tile) {
			paid, e := s.bring(place, height)
			if e != api.OK {
				return api.Land{}, 0, e
			}
			sum += paid
		}
	}
	return s.land, sum, api.OK
}

// site is a land at work, whose corners are its own; fixed tells of each
// corner whether a held tile has it.
type site struct {
	land  api.Land
	fixed []bool
}

// open returns the site of a land.
func open(l api.Land, held []int) site {
	s := site{land: l, fixed: make([]bool, len(l.Corners))}
	s.land.Corners = slices.Clone(l.Corners)
	for _, tile := range held {
		if !isTile(l, tile) {
			continue
		}
		for _, place := range places(l, tile) {
			s.fixed[place] = true
		}
	}
	return s
}

// shift moves a corner by step (1 or -1), with those that must follow, and
// returns them; with an error nothing has moved.
func (s site) shift(x, y, step int) ([]api.Corner, api.Errno) {
	wide := s.land.W + 1
	z := s.land.Corners[y*wide+x] + step
	if !isHeight(z) {
		return nil, api.ErrEdge
	}
	list := followers(s.land, x, y, z, step)
	for _, c := range list {
		if s.fixed[c.Y*wide+c.X] {
			return nil, api.ErrTaken
		}
	}
	for _, c := range list {
		s.land.Corners[c.Y*wide+c.X] = c.Z
	}
	return list, api.OK
}

// bring shifts a corner until it is at height, and returns the cost.
func (s site) bring(place, height int) (int, api.Errno) {
	wide := s.land.W + 1
	sum := 0
	for s.land.Corners[place] != height {
		step := 1
		if s.land.Corners[place] > height {
			step = -1
		}
		list, e := s.shift(place%wide, place/wide, step)
		if e != api.OK {
			return 0, e
		}
		sum += cost(list)
	}
	return sum, api.OK
}

// followers returns the corners that change when the corner (x, y) gets the
// height z, which is step away from its own, with their new heights.
func followers(l api.Land, x, y, z, step int) []api.Corner {
	var list []api.Corner
rows:
	for v := range l.H + 1 {
		for u := range l.W + 1 {
			bound := z - step*(distance(u, x)+distance(v, y))
			if (bound-l.Corners[v*(l.W+1)+u])*step > 0 {
				list = append(list, api.Corner{X: u, Y: v, Z: bound})
			} else if u >= x {
				continue rows // neighbours are within one step: what is farther off stays as well
			}
		}
	}
	return list
}

// cost returns the cost of a shift: as neighbours are within one step, each
// corner changes by one height.
func cost(list []api.Corner) int {
	return len(list) * api.CostCorner
}
