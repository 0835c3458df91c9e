package span_test

import (
	"math"
	"math/rand/v2"
	"slices"
	"strings"
	"testing"

	"hinterland/api"
	"hinterland/land"
)

const (
	minInt = math.MinInt
	maxInt = math.MaxInt
)

// picture makes a land of lines of letters: a row of corners each, `a` for 0.
func picture(lines ...string) api.Land {
	l := api.Land{W: len(lines[0]) - 1, H: len(lines) - 1}
	for _, b := range []byte(strings.Join(lines, "")) {
		l.Corners = append(l.Corners, int(b)-'a')
	}
	return l
}

// flat makes a land whose corners are all at height.
func flat(w, h, height int) api.Land {
	return api.Land{W: w, H: h, Corners: slices.Repeat([]int{height}, (w+1)*(h+1))}
}

// hills makes a land of blocks by chance, which lie on and beside one another,
// so that many tunnels fit through it.
func hills(t *testing.T, seed uint64, w, h int) api.Land {
	t.Helper()
	chance := rand.New(rand.NewPCG(seed, 5))
	raw := slices.Repeat([]int{3}, (w+1)*(h+1))
	for range 1 + chance.IntN(3) {
		x, y := 1+chance.IntN(w-2), 1+chance.IntN(h-2)
		u, v := x+1+chance.IntN(w-x-1), y+1+chance.IntN(h-y-1)
		up := 1 - 2*(chance.IntN(5)/4)
		for i := range raw {
			if i%(w+1) >= x && i%(w+1) <= u && i/(w+1) >= y && i/(w+1) <= v {
				raw[i] += up
			}
		}
	}
	return settled(t, w, h, raw)
}

// grown makes a land with slopes of all kinds.
func grown(t *testing.T, seed uint64, w, h, rough int) api.Land {
	t.Helper()
	l, e := land.Grow(seed, w, h, rough)
	if e != api.OK {
		t.Fatalf("Grow: %d", e)
	}
	return l
}

func settled(t *testing.T, w, h int, raw []int) api.Land {
	t.Helper()
	l, e := land.Settle(w, h, raw)
	if e != api.OK {
		t.Fatalf("Settle: %d", e)
	}
	return l
}

// pyramid is a land of 12 times 11 tiles and three heights, in which tunnels of
// unlike bases cross.
func pyramid() api.Land {
	return picture(
		"ddddddddddddd",
		"deeeeeeeeeeed",
		"deeeeeeeeeeed",
		"deeffffffffed",
		"deeffffffffed",
		"deeffffffffed",
		"deeffffffffed",
		"deeffffffffed",
		"deeeeeeeeeeed",
		"deeeeeeeeeeed",
		"deeeeeeeeeeed",
		"ddddddddddddd",
	)
}

// lands are lands on which spans of all kinds are tried.
func lands(t *testing.T) []api.Land {
	list := []api.Land{flat(5, 4, 3), flat(4, 6, 0), flat(6, 5, 15)}
	for seed := range uint64(40) {
		list = append(list, hills(t, seed, 5+int(seed)%4, 8-int(seed)%3))
		list = append(list, grown(t, seed, 8-int(seed)%3, 5+int(seed)%4, 1+int(seed)%4))
	}
	return list
}

// fourOf returns a tile's heights: north-west, north-east, south-east,
// south-west.
func fourOf(l api.Land, tile int) []int {
	at := func(x, y int) int { return l.Corners[y*(l.W+1)+x] }
	x, y := tile%l.W, tile/l.W
	return []int{at(x, y), at(x+1, y), at(x+1, y+1), at(x, y+1)}
}

func baseOf(l api.Land, tile int) int {
	return slices.Min(fourOf(l, tile))
}

// middleOf looks for the tiles between the heads on the whole map.
func middleOf(l api.Land, s api.Span) []int {
	ax, ay, bx, by := s.A%l.W, s.A/l.W, s.B%l.W, s.B/l.W
	var list []int
	for tile := range l.W * l.H {
		x, y := tile%l.W, tile/l.W
		if ay == by && y == ay && ax < x && x < bx || ax == bx && x == ax && ay < y && y < by {
			list = append(list, tile)
		}
	}
	return list
}

// faultOf is P5.1 word for word, on a land that is valid.
func faultOf(l api.Land, s api.Span) api.Errno {
	if s.Kind != 0 && s.Kind != 1 || s.Use != 0 && s.Use != 1 {
		return api.ErrArg
	}
	for _, head := range []int{s.A, s.B} {
		if head < 0 || head >= l.W*l.H {
			return api.ErrNone
		}
	}
	row, column := s.A/l.W == s.B/l.W, s.A%l.W == s.B%l.W
	if s.A >= s.B || !row && !column {
		return api.ErrFit
	}
	middle := middleOf(l, s)
	if len(middle) == 0 || len(middle) > 10 {
		return api.ErrLimit
	}
	if steepOrUneven(l, s) || s.Kind == 0 && blocked(l, s, middle) || s.Kind == 1 && open(l, s, row, middle) {
		return api.ErrSlope
	}
	return api.OK
}

func steepOrUneven(l api.Land, s api.Span) bool {
	a, b := fourOf(l, s.A), fourOf(l, s.B)
	return slices.Min(a) != slices.Min(b) || slices.Max(a) == slices.Min(a)+2 || slices.Max(b) == slices.Min(b)+2
}

// blocked tells whether land is in a bridge's way.
func blocked(l api.Land, s api.Span, middle []int) bool {
	return slices.ContainsFunc(middle, func(tile int) bool {
		return slices.Max(fourOf(l, tile)) > baseOf(l, s.A)
	})
}

// open tells whether a tunnel lacks land above it, or a way into the land.
func open(l api.Land, s api.Span, row bool, middle []int) bool {
	if slices.ContainsFunc(middle, func(tile int) bool { return baseOf(l, tile) <= baseOf(l, s.A) }) {
		return true
	}
	z := baseOf(l, s.A)
	if row {
		return !slices.Equal(fourOf(l, s.A), []int{z, z + 1, z + 1, z}) || !slices.Equal(fourOf(l, s.B), []int{z + 1, z, z, z + 1})
	}
	return !slices.Equal(fourOf(l, s.A), []int{z, z, z + 1, z + 1}) || !slices.Equal(fourOf(l, s.B), []int{z + 1, z + 1, z, z})
}

// spansOf are all spans that fit a land, ascending.
func spansOf(l api.Land) []api.Span {
	var list []api.Span
	for kind := range 2 {
		for a := range l.W * l.H {
			for b := range l.W * l.H {
				for use := range 2 {
					if s := (api.Span{Kind: kind, A: a, B: b, Use: use}); faultOf(l, s) == api.OK {
						list = append(list, s)
					}
				}
			}
		}
	}
	return list
}

// some picks spans of a list by chance; it stays in order.
func some(list []api.Span, chance *rand.Rand, n int) []api.Span {
	var picked []api.Span
	for _, s := range list {
		if chance.IntN(len(list)) < n {
			picked = append(picked, s)
		}
	}
	return picked
}

// costOf is P5.2 word for word.
func costOf(l api.Land, s api.Span) int {
	n := len(middleOf(l, s))
	return (s.Kind+1)*api.CostSpan*n + n*n*api.CostSpan/4
}

// takenOf is the ErrTaken of P5.3 word for word.
func takenOf(l api.Land, spans []api.Span, s api.Span) bool {
	for _, other := range spans {
		own, others := []int{s.A, s.B}, []int{other.A, other.B}
		if overlap(own, others) {
			return true
		}
		if other.Kind != s.Kind || s.Kind == 1 && baseOf(l, s.A) != baseOf(l, other.A) {
			continue
		}
		crossed, otherCrossed := middleOf(l, s), middleOf(l, other)
		if overlap(own, otherCrossed) || overlap(crossed, others) || overlap(crossed, otherCrossed) {
			return true
		}
	}
	return false
}

func overlap(a, b []int) bool {
	return slices.ContainsFunc(a, func(tile int) bool { return slices.Contains(b, tile) })
}

// sample makes a list of spans that Add would not make, out of all that fit.
func sample(t *testing.T, l api.Land, seed uint64, n int) []api.Span {
	t.Helper()
	return some(spansOf(l), rand.New(rand.NewPCG(seed, 55)), n)
}

type wrongLand struct {
	l    api.Land
	want api.Errno
}

// wrongLands are lands with what land.Validate says of them.
func wrongLands() map[string]wrongLand {
	below, above, cliff := flat(5, 4, 3), flat(5, 4, 3), flat(5, 4, 3)
	below.Corners[0], above.Corners[29], cliff.Corners[29] = -1, 16, 5
	return map[string]wrongLand{
		"nothing":    {api.Land{}, api.ErrArg},
		"narrow":     {flat(3, 4, 3), api.ErrArg},
		"high":       {flat(4, 33, 3), api.ErrArg},
		"no corners": {api.Land{W: 4, H: 4}, api.ErrArg},
		"no width":   {api.Land{H: 4, Corners: make([]int, 5)}, api.ErrArg},
		"greatest":   {api.Land{W: maxInt, H: maxInt}, api.ErrArg},
		"least":      {api.Land{W: minInt, H: minInt, Corners: []int{1}}, api.ErrArg},
		"too low":    {below, api.ErrArg},
		"too high":   {above, api.ErrArg},
		"a cliff":    {cliff, api.ErrSlope},
	}
}
