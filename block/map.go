package block

import (
	"slices"

	"hinterland/api"
	"hinterland/rail"
)

// Map keeps rails and signals, and the blocks of all pieces.
type Map struct {
	rails   api.Rails
	signals []api.Signal
	blocks  map[int]int // nil if New did not make it
}

// New returns a Map of rails and signals.
func New(r api.Rails, l []api.Signal) (*Map, api.Errno) {
	if e := Validate(r, l); e != api.OK {
		return nil, e
	}
	r.Sets = slices.Clone(r.Sets)
	r.Wired = slices.Clone(r.Wired)
	m := &Map{rails: r, signals: slices.Clone(l), blocks: map[int]int{}}
	m.find()
	return m, api.OK
}

// Lay adds a piece, which is not wired.
func (m *Map) Lay(tile, piece int) api.Errno {
	if !m.made() {
		return api.ErrArg
	}
	r, e := rail.Lay(m.rails, tile, piece, false)
	if e != api.OK {
		return e
	}
	m.rails = r
	m.renew(tile, piece)
	return api.OK
}

// Lift takes a piece away, and its signals.
func (m *Map) Lift(tile, piece int) api.Errno {
	if !m.made() {
		return api.ErrArg
	}
	r, e := rail.Lift(m.rails, tile, piece)
	if e != api.OK {
		return e
	}
	m.rails = r
	m.signals = slices.DeleteFunc(m.signals, func(s api.Signal) bool { return s.Tile == tile && s.Piece == piece })
	m.renew(tile, piece)
	return api.OK
}

// Put adds a signal, or changes the kind of the one that is there.
func (m *Map) Put(s api.Signal) api.Errno {
	if !m.made() {
		return api.ErrArg
	}
	l, e := Put(m.rails, m.signals, s)
	if e != api.OK {
		return e
	}
	m.signals = l
	m.renew(s.Tile, s.Piece)
	return api.OK
}

// Take takes a signal away.
func (m *Map) Take(tile, piece, to int) api.Errno {
	if !m.made() {
		return api.ErrArg
	}
	l, e := Take(m.rails, m.signals, tile, piece, to)
	if e != api.OK {
		return e
	}
	m.signals = l
	m.renew(tile, piece)
	return api.OK
}

// Of returns the number of the block of a piece.
func (m *Map) Of(tile, piece int) (int, api.Errno) {
	if !m.made() {
		return 0, api.ErrArg
	}
	if !lies(m.rails, tile, piece) {
		return 0, api.ErrNone
	}
	return m.blocks[number(tile, piece)], api.OK
}

// Blocks returns all blocks with their pieces.
func (m *Map) Blocks() []api.Part {
	if !m.made() {
		return nil
	}
	return m.chart().parts()
}

// made tells whether New made a Map.
func (m *Map) made() bool {
	return m != nil && m.blocks != nil
}

func (m *Map) chart() chart {
	return chart{rails: m.rails, cut: signals(m.signals).stands, blocks: m.blocks}
}

// renew finds the blocks anew that a change of a piece, or of its signals, can
// have changed: each of them holds the piece or one that would be next to it
// if there were no signals.
func (m *Map) renew(tile, piece int) {
	bare := chart{rails: m.rails, cut: func(api.Spot) bool { return false }}
	own := number(tile, piece)
	for _, each := range append(bare.beside(own), own) {
		delete(m.blocks, each)
	}
	m.find()
}

// find finds the blocks of the pieces that have none.
func (m *Map) find() {
	c := m.chart()
	for _, piece := range c.pieces() {
		c.block(piece)
	}
}
