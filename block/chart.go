package block

import (
	"slices"

	"hinterland/api"
	"hinterland/rail"
)

// The sides of a tile.
const (
	east = iota
	south
	west
	north
	sides
)

const (
	pieces = 6
	row    = 8 // numbers of pieces from one tile to the next one
)

const noBlock = -1

// chart is valid rails, cut by signals, with the blocks of the pieces that
// were asked for so far.
type chart struct {
	rails  api.Rails
	cut    func(api.Spot) bool // whether a signal stands at the joint of a spot
	blocks map[int]int         // numbers of blocks, by the numbers of their pieces
}

func survey(r api.Rails, l []api.Signal) chart {
	return chart{rails: r, cut: signals(l).stands, blocks: map[int]int{}}
}

// Blocks returns all blocks with their pieces.
func Blocks(r api.Rails, l []api.Signal) ([]api.Part, api.Errno) {
	if e := Validate(r, l); e != api.OK {
		return nil, e
	}
	return survey(r, l).parts(), api.OK
}

// Of returns the number of the block of a piece.
func Of(r api.Rails, l []api.Signal, tile, piece int) (int, api.Errno) {
	if e := Validate(r, l); e != api.OK {
		return 0, e
	}
	if !lies(r, tile, piece) {
		return 0, api.ErrNone
	}
	return survey(r, l).block(number(tile, piece)), api.OK
}

// Beyond returns the numbers of the blocks that follow a spot.
func Beyond(r api.Rails, l []api.Signal, s api.Spot) ([]int, api.Errno) {
	if e := Validate(r, l); e != api.OK {
		return nil, e
	}
	if _, e := rail.Next(r, s); e != api.OK {
		return nil, e
	}
	block := survey(r, l).ahead(s)
	if block == noBlock {
		return nil, api.OK
	}
	return []int{block}, api.OK
}

// parts returns all blocks. As pieces are taken ascending, the first one of a
// block is the one from which it has its number.
func (c chart) parts() []api.Part {
	var list []api.Part
	places := map[int]int{}
	for _, piece := range c.pieces() {
		block := c.block(piece)
		if block == piece {
			places[block] = len(list)
			list = append(list, api.Part{Number: block})
		}
		part := &list[places[block]]
		part.Pieces = append(part.Pieces, piece)
	}
	return list
}

// ahead returns the number of the block beyond a spot, or noBlock. It is never
// more than one, as all pieces with an end at the same side of a tile touch.
func (c chart) ahead(s api.Spot) int {
	list := facing(c.rails, s.Tile, s.To)
	if len(list) == 0 {
		return noBlock
	}
	return c.block(number(list[0].Tile, list[0].Piece))
}

// block returns the number of the block of a piece that lies.
func (c chart) block(piece int) int {
	block, ok := c.blocks[piece]
	if ok {
		return block
	}
	list := c.gather(piece)
	block = slices.Min(list)
	for _, each := range list {
		c.blocks[each] = block
	}
	return block
}

// gather returns the pieces that hang together with one.
func (c chart) gather(piece int) []int {
	reached := map[int]bool{piece: true}
	list := []int{piece}
	for i := 0; i < len(list); i++ {
		for _, next := range c.beside(list[i]) {
			if !reached[next] {
				reached[next] = true
				list = append(list, next)
			}
		}
	}
	return list
}

// beside returns the pieces that are next to one, whether it lies or not.
func (c chart) beside(own int) []int {
	tile, piece := own/row, own%row
	var list []int
	for other := range pieces {
		if touch(piece, other) && lies(c.rails, tile, other) {
			list = append(list, number(tile, other))
		}
	}
	a, b, _ := rail.Ends(piece)
	for _, side := range []int{a, b} {
		if c.cut(api.Spot{Tile: tile, Piece: piece, To: side}) {
			continue
		}
		for _, s := range facing(c.rails, tile, side) {
			if !c.cut(s) {
				list = append(list, number(s.Tile, s.Piece))
			}
		}
	}
	return list
}

// pieces returns the numbers of all pieces, ascending.
func (c chart) pieces() []int {
	var list []int
	for tile := range c.rails.Sets {
		for piece := range pieces {
			if lies(c.rails, tile, piece) {
				list = append(list, number(tile, piece))
			}
		}
	}
	return list
}

// facing returns the spots beyond a side of a tile that are left through this
// side.
func facing(r api.Rails, tile, side int) []api.Spot {
	tile = beyond(r, tile, side)
	var list []api.Spot
	for piece := range pieces {
		s := api.Spot{Tile: tile, Piece: piece, To: (side + 2) % sides}
		if bears(r, s) {
			list = append(list, s)
		}
	}
	return list
}

// beyond returns the tile on a side of a tile, or -1 where the map ends.
func beyond(r api.Rails, tile, side int) int {
	x, y := tile%r.W, tile/r.W
	switch side {
	case east:
		x++
	case south:
		y++
	case west:
		x--
	case north:
		y--
	}
	if x < 0 || x >= r.W || y < 0 || y >= r.H {
		return -1
	}
	return y*r.W + x
}

// touch tells whether two pieces of a tile touch, as all do but opposite
// curves.
func touch(a, b int) bool {
	switch 1<<a | 1<<b {
	case 1<<2 | 1<<4, 1<<3 | 1<<5:
		return false
	}
	return a != b
}

// lies tells whether a number is that of a tile on which a piece lies.
func lies(r api.Rails, tile, piece int) bool {
	return tile >= 0 && tile < len(r.Sets) && piece >= 0 && piece < pieces && r.Sets[tile]&(1<<piece) != 0
}

// number returns the number of a piece.
func number(tile, piece int) int {
	return row*tile + piece
}
