package water_test

import (
	"math"
	"math/rand/v2"
	"slices"
	"strings"
	"testing"

	"hinterland/api"
	"hinterland/land"
)

const (
	minInt = math.MinInt
	maxInt = math.MaxInt
)

// The kinds of tiles.
const (
	canal = 1
	lock  = 2
	dock  = 3
)

// picture makes a land of lines of letters: a row of corners each, `a` for 0.
func picture(lines ...string) api.Land {
	l := api.Land{W: len(lines[0]) - 1, H: len(lines) - 1}
	for _, b := range []byte(strings.Join(lines, "")) {
		l.Corners = append(l.Corners, int(b)-'a')
	}
	return l
}

// chart makes waters of lines of digits, a row of kinds each.
func chart(buoys []int, lines ...string) api.Waters {
	w := api.Waters{Buoys: buoys}
	for _, b := range []byte(strings.Join(lines, "")) {
		w.Kinds = append(w.Kinds, int(b)-'0')
	}
	return w
}

// flat makes a land whose corners are all at height.
func flat(w, h, height int) api.Land {
	return api.Land{W: w, H: h, Corners: slices.Repeat([]int{height}, (w+1)*(h+1))}
}

// bare makes waters without anything for a land.
func bare(l api.Land) api.Waters {
	return api.Waters{Kinds: make([]int, l.W*l.H)}
}

// stairs is a land of 8 times 4 tiles whose rows are alike: sea, a slope up
// from it, a flat tile of height 3, a slope up, two flat tiles of height 4, a
// slope down, a flat tile of height 3.
func stairs() api.Land {
	row := "ccddeeedd"
	return picture(row, row, row, row, row)
}

// river is a canal on the stairs from the sea to the east, by three locks, with
// a dock in its middle, and with buoys on the sea, on a lock and on the dock.
func river() api.Waters {
	return chart([]int{0, 8, 11, 13}, "00000000", "02121321", "00000000", "00000000")
}

// turned exchanges east and south on a land and its waters.
func turned(l api.Land, w api.Waters) (api.Land, api.Waters) {
	m := api.Land{W: l.H, H: l.W}
	for i := range l.Corners {
		m.Corners = append(m.Corners, l.Corners[i%(l.H+1)*(l.W+1)+i/(l.H+1)])
	}
	v := bare(m)
	for tile, kind := range w.Kinds {
		v.Kinds[turnedTile(l, tile)] = kind
	}
	for _, tile := range w.Buoys {
		v.Buoys = append(v.Buoys, turnedTile(l, tile))
	}
	slices.Sort(v.Buoys)
	return m, v
}

func turnedTile(l api.Land, tile int) int {
	return tile%l.W*l.H + tile/l.W
}

// blocks makes a land of blocks by chance around the height of the sea, with
// many straight slopes.
func blocks(t *testing.T, seed uint64, w, h int) api.Land {
	t.Helper()
	chance := rand.New(rand.NewPCG(seed, 6))
	raw := slices.Repeat([]int{2 + chance.IntN(2)}, (w+1)*(h+1))
	for range 1 + chance.IntN(4) {
		x, y := chance.IntN(w), chance.IntN(h)
		u, v := x+1+chance.IntN(w-x), y+1+chance.IntN(h-y)
		up := 1 - 2*(chance.IntN(3)/2)
		for i := range raw {
			if i%(w+1) >= x && i%(w+1) <= u && i/(w+1) >= y && i/(w+1) <= v {
				raw[i] += up
			}
		}
	}
	l, e := land.Settle(w, h, raw)
	if e != api.OK {
		t.Fatalf("Settle: %d", e)
	}
	return l
}

// grown makes a land with slopes of all kinds.
func grown(t *testing.T, seed uint64, w, h, rough int) api.Land {
	t.Helper()
	l, e := land.Grow(seed, w, h, rough)
	if e != api.OK {
		t.Fatalf("Grow: %d", e)
	}
	return l
}

// lands are lands on which waters of all kinds are tried.
func lands(t *testing.T) []api.Land {
	list := []api.Land{flat(5, 4, 3), flat(4, 6, 2), flat(6, 5, 0), flat(4, 4, 15), stairs()}
	for seed := range uint64(40) {
		list = append(list, blocks(t, seed, 4+int(seed)%5, 8-int(seed)%4))
		list = append(list, grown(t, seed, 8-int(seed)%4, 4+int(seed)%5, 1+int(seed)%4))
	}
	return list
}

// fourOf returns a tile's heights: north-west, north-east, south-east,
// south-west.
func fourOf(l api.Land, tile int) []int {
	at := func(x, y int) int { return l.Corners[y*(l.W+1)+x] }
	x, y := tile%l.W, tile/l.W
	return []int{at(x, y), at(x+1, y), at(x+1, y+1), at(x, y+1)}
}

func baseOf(l api.Land, tile int) int {
	return slices.Min(fourOf(l, tile))
}

func isSea(l api.Land, tile int) bool {
	return slices.Max(fourOf(l, tile)) <= 2
}

func isFlat(l api.Land, tile int) bool {
	return slices.Max(fourOf(l, tile)) == baseOf(l, tile)
}

// upOf returns the side to which a tile goes up straight, or -1.
func upOf(l api.Land, tile int) int {
	four := fourOf(l, tile)
	for i := range four {
		four[i] -= baseOf(l, tile)
	}
	up := [][]int{{0, 1, 1, 0}, {0, 0, 1, 1}, {1, 0, 0, 1}, {1, 1, 0, 0}}
	return slices.IndexFunc(up, func(x []int) bool { return slices.Equal(x, four) })
}

// lies tells by the words of P6.1 whether a kind may be that of a tile.
func lies(l api.Land, tile, kind int) bool {
	switch kind {
	case canal:
		return !isSea(l, tile) && isFlat(l, tile)
	case lock:
		return !isSea(l, tile) && upOf(l, tile) >= 0
	case dock:
		return isSea(l, tile) || isFlat(l, tile)
	}
	return true
}

// isWet asks it of valid waters.
func isWet(l api.Land, w api.Waters, tile int) bool {
	if tile < 0 || tile >= l.W*l.H {
		return false
	}
	return isSea(l, tile) && (w.Kinds[tile] == 0 || w.Kinds[tile] == dock) || w.Kinds[tile] > 0
}

func levelOf(l api.Land, tile int) int {
	if isSea(l, tile) {
		return 2
	}
	return baseOf(l, tile)
}

// beyondOf returns the tile on a side of a tile, or -1.
func beyondOf(l api.Land, tile, side int) int {
	x, y := tile%l.W, tile/l.W
	x, y = x+[]int{1, 0, -1, 0}[side], y+[]int{0, 1, 0, -1}[side]
	if x < 0 || x >= l.W || y < 0 || y >= l.H {
		return -1
	}
	return x + y*l.W
}

// joinedOf is P6.3 word for word.
func joinedOf(l api.Land, w api.Waters, tile, side int) bool {
	next := beyondOf(l, tile, side)
	if !isWet(l, w, tile) || !isWet(l, w, next) {
		return false
	}
	locks := 0
	for _, x := range []int{tile, next} {
		if w.Kinds[x] == lock {
			locks++
		}
	}
	if locks != 1 {
		return locks == 0 && levelOf(l, tile) == levelOf(l, next)
	}
	if w.Kinds[next] == lock {
		tile, next, side = next, tile, (side+2)%4
	}
	if upOf(l, tile)%2 != side%2 {
		return false
	}
	if upOf(l, tile) == side {
		return levelOf(l, next) == levelOf(l, tile)+1
	}
	return levelOf(l, next) == levelOf(l, tile)
}

// nextOf is Next of P6.3 word for word.
func nextOf(l api.Land, w api.Waters, tile, from int) []int {
	var list []int
	for side := range 4 {
		if side != from && joinedOf(l, w, tile, side) {
			list = append(list, side)
		}
	}
	if len(list) == 0 && from >= 0 && joinedOf(l, w, tile, from) {
		return []int{from}
	}
	return list
}

// areasOf lets the least numbers go over from tile to tile until none changes.
func areasOf(l api.Land, w api.Waters) []int {
	list := make([]int, l.W*l.H)
	for tile := range list {
		list[tile] = tile
		if !isWet(l, w, tile) {
			list[tile] = -1
		}
	}
	for changed := true; changed; {
		changed = false
		for tile := range list {
			for side := range 4 {
				if joinedOf(l, w, tile, side) && list[beyondOf(l, tile, side)] < list[tile] {
					list[tile] = list[beyondOf(l, tile, side)]
					changed = true
				}
			}
		}
	}
	return list
}

// waysOf returns the first one of the shortest ways from a tile to each one,
// by comparing whole ways until none is better.
func waysOf(l api.Land, w api.Waters, from int) [][]int {
	list := make([][]int, l.W*l.H)
	if isWet(l, w, from) {
		list[from] = []int{from}
	}
	better := func(a, b []int) bool {
		return b == nil || len(a) < len(b) || len(a) == len(b) && slices.Compare(a, b) < 0
	}
	for changed := true; changed; {
		changed = false
		for tile, way := range list {
			for side := range 4 {
				if way == nil || !joinedOf(l, w, tile, side) {
					continue
				}
				next := beyondOf(l, tile, side)
				if longer := append(slices.Clone(way), next); better(longer, list[next]) {
					list[next] = longer
					changed = true
				}
			}
		}
	}
	return list
}

// filled makes valid waters by chance: part of 8 tiles get a kind if one fits.
func filled(l api.Land, seed uint64, part int) api.Waters {
	chance := rand.New(rand.NewPCG(seed, 66))
	w := bare(l)
	for tile := range w.Kinds {
		if chance.IntN(8) >= part {
			continue
		}
		for _, kind := range chance.Perm(3) {
			if lies(l, tile, kind+1) {
				w.Kinds[tile] = kind + 1
			}
		}
	}
	for tile := range w.Kinds {
		if isWet(l, w, tile) && chance.IntN(3) == 0 {
			w.Buoys = append(w.Buoys, tile)
		}
	}
	return w
}

// roomy is a copy of waters with room behind its lists, in which a call that
// changes its argument leaves a trace.
func roomy(w api.Waters) api.Waters {
	return api.Waters{
		Kinds: append(make([]int, 0, len(w.Kinds)+8), w.Kinds...),
		Buoys: append(make([]int, 0, len(w.Buoys)+8), w.Buoys...),
	}
}

// whole is a copy of waters with the room behind its lists.
func whole(w api.Waters) api.Waters {
	return api.Waters{Kinds: slices.Clone(w.Kinds[:cap(w.Kinds)]), Buoys: slices.Clone(w.Buoys[:cap(w.Buoys)])}
}

// scribble writes over all that lists hold.
func scribble(lists ...[]int) {
	for _, list := range lists {
		list = list[:cap(list)]
		for i := range list {
			list[i] = -7
		}
	}
}

func same(a, b api.Waters) bool {
	return slices.Equal(a.Kinds, b.Kinds) && slices.Equal(a.Buoys, b.Buoys)
}

func isZero(w api.Waters) bool {
	return len(w.Kinds) == 0 && len(w.Buoys) == 0
}

// with is waters in which a tile has another kind.
func with(w api.Waters, tile, kind int) api.Waters {
	w = roomy(w)
	w.Kinds[tile] = kind
	return w
}

// marked is waters with other buoys.
func marked(w api.Waters, buoys ...int) api.Waters {
	return api.Waters{Kinds: w.Kinds, Buoys: buoys}
}

type wrong struct {
	name string
	l    api.Land
	w    api.Waters
	want api.Errno
}

// wrongs are lands and waters with what Validate says of them.
func wrongs() []wrong {
	below, above, cliff := stairs(), stairs(), stairs()
	below.Corners[0], above.Corners[44], cliff.Corners[44] = -1, 16, 5
	good, w := stairs(), river()
	return []wrong{
		{"no land", api.Land{}, w, api.ErrArg},
		{"a narrow land", flat(3, 4, 3), bare(flat(3, 4, 3)), api.ErrArg},
		{"a high land", flat(4, 33, 3), bare(flat(4, 33, 3)), api.ErrArg},
		{"no corners", api.Land{W: 8, H: 4}, w, api.ErrArg},
		{"the greatest land", api.Land{W: maxInt, H: maxInt}, w, api.ErrArg},
		{"the least land", api.Land{W: minInt, H: minInt, Corners: []int{1}}, w, api.ErrArg},
		{"a corner too low", below, w, api.ErrArg},
		{"a corner too high", above, w, api.ErrArg},
		{"a cliff", cliff, w, api.ErrSlope},
		{"a cliff ahead of no kinds", cliff, api.Waters{}, api.ErrSlope},
		{"a cliff ahead of a buoy on no tile", cliff, marked(w, 99), api.ErrSlope},
		{"no kinds", good, api.Waters{}, api.ErrArg},
		{"too few kinds", good, api.Waters{Kinds: w.Kinds[:31]}, api.ErrArg},
		{"too many kinds", good, api.Waters{Kinds: append(slices.Clone(w.Kinds), 0)}, api.ErrArg},
		{"a kind -1", good, with(w, 31, -1), api.ErrArg},
		{"a kind 4", good, with(w, 0, 4), api.ErrArg},
		{"the least kind", good, with(w, 7, minInt), api.ErrArg},
		{"the greatest kind", good, with(w, 7, maxInt), api.ErrArg},
		{"a buoy twice", good, marked(w, 0, 8, 8), api.ErrArg},
		{"buoys that descend", good, marked(w, 8, 0), api.ErrArg},
		{"the last buoy out of order", good, marked(w, 0, 8, 13, 11), api.ErrArg},
		{"out of order ahead of no tile", good, marked(w, 99, -1), api.ErrArg},
		{"a kind that is none ahead of no tile", good, marked(with(w, 31, 4), -1), api.ErrArg},
		{"a kind that is none behind a canal on the sea", good, with(with(w, 0, canal), 31, 4), api.ErrArg},
		{"a buoy on the tile -1", good, marked(w, -1, 8), api.ErrNone},
		{"a buoy behind the last tile", good, marked(w, 0, 32), api.ErrNone},
		{"buoys far off", good, marked(w, minInt, 0, maxInt), api.ErrNone},
		{"no tile ahead of a buoy that is not wet", good, marked(w, 2, 32), api.ErrNone},
		{"no tile ahead of a canal on the sea", good, marked(with(w, 0, canal), 32), api.ErrNone},
		{"a canal on the sea", good, with(w, 0, canal), api.ErrRule},
		{"a lock on the sea", good, with(w, 24, lock), api.ErrRule},
		{"a canal on a slope", good, with(w, 1, canal), api.ErrRule},
		{"a lock on a flat tile", good, with(w, 31, lock), api.ErrRule},
		{"a dock on a slope", good, with(w, 30, dock), api.ErrRule},
		{"a buoy on land", good, marked(w, 2), api.ErrRule},
		{"a buoy on a slope", good, marked(w, 8, 30), api.ErrRule},
	}
}
