package water

import (
	"slices"

	"hinterland/api"
	"hinterland/land"
)

// The sides of a tile.
const (
	east = iota
	south
	west
	north
	sides
)

// What land.Slope tells of flat tiles, and of those that go up to one side.
const (
	flat    = 0
	upNorth = 3
	upEast  = 6
	upWest  = 9
	upSouth = 12
)

const noSide = -1

// chart is waters that are valid on their land, with what was asked of it so
// far: each question of a tile makes the land examine all its corners.
type chart struct {
	land    api.Land
	waters  api.Waters
	grounds map[int]ground
}

// ground is what the land tells of a tile. The slope of sea means nothing to
// ships and is left at 0.
type ground struct {
	sea         bool
	slope, base int
}

// survey returns the chart of waters, or Validate's errors.
func survey(l api.Land, w api.Waters) (chart, api.Errno) {
	if e := land.Validate(l); e != api.OK {
		return chart{}, e
	}
	c := chart{land: l, waters: w, grounds: map[int]ground{}}
	if e := c.validate(); e != api.OK {
		return chart{}, e
	}
	return c, api.OK
}

// validate returns the errors of the waters, on a land that has none.
func (c chart) validate() api.Errno {
	w := c.waters
	wrong := func(kind int) bool { return !isKind(kind) }
	off := func(tile int) bool { return !c.isTile(tile) }
	dry := func(tile int) bool { return !c.wet(tile) }
	switch {
	case len(w.Kinds) != c.land.W*c.land.H || slices.ContainsFunc(w.Kinds, wrong) || !ascends(w.Buoys):
		return api.ErrArg
	case slices.ContainsFunc(w.Buoys, off):
		return api.ErrNone
	case !c.fits() || slices.ContainsFunc(w.Buoys, dry):
		return api.ErrRule
	}
	return api.OK
}

// fits tells whether the land lets every tile have its kind.
func (c chart) fits() bool {
	for tile, kind := range c.waters.Kinds {
		if kind != nothing && c.fault(tile, kind) != api.OK {
			return false
		}
	}
	return true
}

// fault tells what keeps a canal, a lock or a dock from a tile.
func (c chart) fault(tile, kind int) api.Errno {
	g := c.look(tile)
	switch {
	case kind == dock && g.slope != flat:
		return api.ErrRule
	case kind != dock && g.sea:
		return api.ErrRule
	case kind == canal && g.slope != flat:
		return api.ErrSlope
	case kind == lock && upper(g.slope) == noSide:
		return api.ErrSlope
	}
	return api.OK
}

// look returns what the land tells of a tile.
func (c chart) look(tile int) ground {
	g, ok := c.grounds[tile]
	if ok {
		return g
	}
	g.sea, _ = land.Water(c.land, tile)
	if !g.sea {
		g.slope, g.base, _ = land.Slope(c.land, tile)
	}
	c.grounds[tile] = g
	return g
}

// level returns how high the water of a tile stands.
func (g ground) level() int {
	if g.sea {
		return api.Sea
	}
	return g.base
}

// wet tells whether a ship may be on a tile.
func (c chart) wet(tile int) bool {
	return c.waters.Kinds[tile] != nothing || c.look(tile).sea
}

func (c chart) isTile(tile int) bool {
	return tile >= 0 && tile < c.land.W*c.land.H
}

// beyond returns the tile on a side of a tile, or -1 where the map ends.
func (c chart) beyond(tile, side int) int {
	x, y := tile%c.land.W, tile/c.land.W
	switch side {
	case east:
		x++
	case south:
		y++
	case west:
		x--
	case north:
		y--
	}
	if x < 0 || x >= c.land.W || y < 0 || y >= c.land.H {
		return -1
	}
	return y*c.land.W + x
}

// upper returns the side to which a slope goes up, if it goes up to one.
func upper(slope int) int {
	switch slope {
	case upEast:
		return east
	case upSouth:
		return south
	case upWest:
		return west
	case upNorth:
		return north
	}
	return noSide
}

func opposite(side int) int {
	return (side + 2) % sides
}

// ascends tells whether tiles are strictly ascending.
func ascends(tiles []int) bool {
	for i := 1; i < len(tiles); i++ {
		if tiles[i-1] >= tiles[i] {
			return false
		}
	}
	return true
}
