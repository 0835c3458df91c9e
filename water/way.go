package water

import (
	"slices"

	"hinterland/api"
)

// Joined tells whether a ship may go from a tile through a side.
func Joined(l api.Land, w api.Waters, tile, side int) (bool, api.Errno) {
	c, e := survey(l, w)
	switch {
	case e != api.OK:
		return false, e
	case !c.isTile(tile):
		return false, api.ErrNone
	case side < 0 || side >= sides:
		return false, api.ErrArg
	}
	return c.joined(tile, side), api.OK
}

// Next returns the sides through which a ship goes on that came in through
// from; it turns back only where it must.
func Next(l api.Land, w api.Waters, tile, from int) ([]int, api.Errno) {
	c, e := survey(l, w)
	switch {
	case e != api.OK:
		return nil, e
	case !c.sails(tile):
		return nil, api.ErrNone
	case from < noSide || from >= sides:
		return nil, api.ErrArg
	}
	var list []int
	for side := range sides {
		if side != from && c.joined(tile, side) {
			list = append(list, side)
		}
	}
	if len(list) == 0 && from != noSide && c.joined(tile, from) {
		list = append(list, from)
	}
	return list, api.OK
}

// Areas returns for each tile the least one of those that ships reach from
// there, or -1 where no ship may be.
func Areas(l api.Land, w api.Waters) ([]int, api.Errno) {
	c, e := survey(l, w)
	if e != api.OK {
		return nil, e
	}
	areas := map[int]int{}
	for tile := range w.Kinds {
		if _, ok := areas[tile]; !ok && c.wet(tile) {
			c.fill(areas, tile)
		}
	}
	list := slices.Repeat([]int{-1}, len(w.Kinds))
	for tile, area := range areas {
		list[tile] = area
	}
	return list, api.OK
}

// Flood returns the tiles at the shore that the sea would run into.
func Flood(l api.Land, w api.Waters) ([]int, api.Errno) {
	c, e := survey(l, w)
	if e != api.OK {
		return nil, e
	}
	var list []int
	for tile, kind := range w.Kinds {
		g := c.look(tile)
		if kind == nothing && !g.sea && g.base <= api.Sea && c.ashore(tile) {
			list = append(list, tile)
		}
	}
	return list, api.OK
}

// Sail returns the tiles of the shortest way from one tile to another one, of
// several the first one.
func Sail(l api.Land, w api.Waters, from, to int) ([]int, api.Errno) {
	c, e := survey(l, w)
	switch {
	case e != api.OK:
		return nil, e
	case !c.sails(from) || !c.sails(to):
		return nil, api.ErrNone
	}
	before := c.search(from, to)
	if _, ok := before[to]; !ok {
		return nil, api.ErrNone
	}
	list := []int{to}
	for tile := to; tile != from; {
		tile = before[tile]
		list = append(list, tile)
	}
	slices.Reverse(list)
	return list, api.OK
}

// search returns for the tiles that are reached from one tile, until another
// one is, the tile ahead of each on its way. As tiles are taken in the order
// in which they are found, and what is beside them ascending, they are found
// in the order of their shortest ways, and each by the first one of these.
func (c chart) search(from, to int) map[int]int {
	before := map[int]int{from: from}
	found := []int{from}
search:
	for i := 0; i < len(found); i++ {
		for _, next := range c.beside(found[i]) {
			if _, ok := before[next]; ok {
				continue
			}
			before[next] = found[i]
			if next == to {
				break search
			}
			found = append(found, next)
		}
	}
	return before
}

// fill gives the number of a tile to all that hang together with it.
func (c chart) fill(areas map[int]int, first int) {
	areas[first] = first
	open := []int{first}
	for len(open) > 0 {
		last := len(open) - 1
		tile := open[last]
		open = open[:last]
		for _, next := range c.beside(tile) {
			if _, ok := areas[next]; !ok {
				areas[next] = first
				open = append(open, next)
			}
		}
	}
}

// beside returns the tiles to which ships go from a tile, ascending.
func (c chart) beside(tile int) []int {
	var list []int
	for _, side := range []int{north, west, east, south} {
		if c.joined(tile, side) {
			list = append(list, c.beyond(tile, side))
		}
	}
	return list
}

// joined tells whether a ship may go from a tile through a side.
func (c chart) joined(tile, side int) bool {
	next := c.beyond(tile, side)
	if next < 0 || !c.wet(tile) || !c.wet(next) {
		return false
	}
	here, there := c.waters.Kinds[tile] == lock, c.waters.Kinds[next] == lock
	switch {
	case here && there:
		return false
	case here:
		return c.look(tile).lifts(side, c.look(next).level())
	case there:
		return c.look(next).lifts(opposite(side), c.look(tile).level())
	}
	return c.look(tile).level() == c.look(next).level()
}

// lifts tells whether a lock on this ground lets ships through a side behind
// which the water stands at a level.
func (g ground) lifts(side, level int) bool {
	switch side {
	case upper(g.slope):
		return level == g.base+1
	case opposite(upper(g.slope)):
		return level == g.base
	}
	return false
}

// sails tells whether a number is that of a tile on which a ship may be.
func (c chart) sails(tile int) bool {
	return c.isTile(tile) && c.wet(tile)
}

// ashore tells whether a tile lies beside the sea.
func (c chart) ashore(tile int) bool {
	for side := range sides {
		if next := c.beyond(tile, side); next >= 0 && c.look(next).sea {
			return true
		}
	}
	return false
}
