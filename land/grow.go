package land

import (
	"hinterland/api"
	"hinterland/roll"
)

const (
	roughest = 4
	coarsest = 3 // the power of two of the widest grid
)

// Grow returns the land of a seed: of four grids of chance, each finer and
// lower than the one ahead of it, whose numbers are blended and summed.
func Grow(seed uint64, w, h, rough int) (api.Land, api.Errno) {
	if !sized(w, h) || rough < 0 || rough > roughest {
		return api.Land{}, api.ErrArg
	}
	raw := make([]int, cornersOf(w, h))
	s := roll.New(seed, "land")
	for k := coarsest; k >= 0; k-- {
		q := 1 << k
		g, next := drawGrid(s, w/q+2, h/q+2, rough*q+1)
		s = next
		for i := range raw {
			raw[i] += g.blend(i%(w+1), i/(w+1), q)
		}
	}
	for i := range raw {
		raw[i] /= 2
	}
	return Settle(w, h, raw)
}

// Settle returns the land of raw heights: each is cut to what its neighbours
// allow.
func Settle(w, h int, heights []int) (api.Land, api.Errno) {
	if !sized(w, h) || len(heights) != cornersOf(w, h) {
		return api.Land{}, api.ErrArg
	}
	corners := make([]int, len(heights))
	for i, z := range heights {
		corners[i] = min(max(z, 0), api.MaxHeight)
	}
	settle(corners, w+1)
	return api.Land{W: w, H: h, Corners: corners}, api.OK
}

// settle lowers each corner to at most one above its neighbours. Two passes
// are enough: the way from any corner to another can go east and south first
// (or one of them), which the first pass does, then west and north, which the
// second does.
func settle(corners []int, wide int) {
	for i := range corners {
		if i%wide > 0 {
			corners[i] = min(corners[i], corners[i-1]+1)
		}
		if i >= wide {
			corners[i] = min(corners[i], corners[i-wide]+1)
		}
	}
	for i := len(corners) - 1; i >= 0; i-- {
		if i%wide < wide-1 {
			corners[i] = min(corners[i], corners[i+1]+1)
		}
		if i+wide < len(corners) {
			corners[i] = min(corners[i], corners[i+wide]+1)
		}
	}
}

// grid is a table of numbers, row by row.
type grid struct {
	columns int
	numbers []int
}

// drawGrid draws a grid of numbers below n, and returns the stream behind it.
func drawGrid(s api.Stream, columns, rows, n int) (grid, api.Stream) {
	g := grid{columns: columns, numbers: make([]int, columns*rows)}
	for i := range g.numbers {
		k, next := roll.Below(s, n)
		g.numbers[i], s = k, next
	}
	return g, s
}

// blend returns what a corner gets of a grid whose lines are q corners apart:
// the mean of the four numbers about it, the more of each the nearer it is.
func (g grid) blend(x, y, q int) int {
	at := y/q*g.columns + x/q
	u, v := x%q, y%q
	north := g.numbers[at]*(q-u) + g.numbers[at+1]*u
	south := g.numbers[at+g.columns]*(q-u) + g.numbers[at+g.columns+1]*u
	return (north*(q-v) + south*v) / (q * q)
}
