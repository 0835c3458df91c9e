package block

import (
	"slices"

	"hinterland/api"
	"hinterland/rail"
)

// board is signals with what they show by now.
type board struct {
	signals []api.Signal
	shows   []bool
	ahead   []int         // for each signal the block Beyond, or noBlock
	held    map[int]bool  // blocks in which something is
	out     map[int][]int // for each block the places of the signals that lead out of it
}

// Shows tells for each signal whether it shows go while some blocks are held.
// From none that does, each round adds those that the ones so far bring about.
func Shows(r api.Rails, l []api.Signal, held []int) ([]bool, api.Errno) {
	if e := Validate(r, l); e != api.OK {
		return nil, e
	}
	b := look(survey(r, l), l, held)
	for more := true; more; {
		more = false
		for i := range l {
			if !b.shows[i] && b.goes(i) {
				b.shows[i], more = true, true
			}
		}
	}
	return b.shows, api.OK
}

// May tells whether a train may pass from a spot to one of its Next.
func May(r api.Rails, l []api.Signal, s, n api.Spot) (bool, api.Errno) {
	if e := Validate(r, l); e != api.OK {
		return false, e
	}
	next, e := rail.Next(r, s)
	if e != api.OK {
		return false, e
	}
	if !slices.Contains(next, n) {
		return false, api.ErrFit
	}
	back, _ := rail.Back(n) // at the same joint as s
	place, found := signals(l).find(back)
	against := found && l[place].Kind != path
	return signals(l).stands(s) || !against, api.OK
}

// look returns the board of signals of which none shows go.
func look(c chart, l []api.Signal, held []int) board {
	b := board{signals: l, shows: make([]bool, len(l)), held: map[int]bool{}, out: map[int][]int{}}
	for _, block := range held {
		b.held[block] = true
	}
	for i, s := range l {
		b.ahead = append(b.ahead, c.ahead(spot(s)))
		if s.Kind == exit || s.Kind == both {
			own := c.block(number(s.Tile, s.Piece))
			b.out[own] = append(b.out[own], i)
		}
	}
	return b
}

// goes tells whether a signal shows go by what the others show by now.
func (b board) goes(i int) bool {
	block := b.ahead[i]
	if block == noBlock || b.held[block] {
		return false
	}
	if kind := b.signals[i].Kind; kind != entry && kind != both {
		return true
	}
	return b.leads(i, block)
}

// leads tells whether a train that passes a signal finds one that shows go out
// of a block, or none at all that leads out of it.
func (b board) leads(i, block int) bool {
	none := true
	for _, j := range b.out[block] {
		if b.signals[j].Tile == b.signals[i].Tile && b.signals[j].Piece == b.signals[i].Piece {
			continue
		}
		if b.shows[j] {
			return true
		}
		none = false
	}
	return none
}
