package block_test

import (
	"maps"
	"math"
	"math/rand/v2"
	"slices"
	"testing"

	"hinterland/api"
	"hinterland/block"
)

const (
	minInt = math.MinInt
	maxInt = math.MaxInt
)

// The kinds of signals.
const (
	plain = iota
	entry
	exit
	both
	path
	oneWay
)

// The sides of a tile.
const (
	east = iota
	south
	west
	north
)

// joins are the ends of each piece, as chapter 3 names them.
var joins = [6][2]int{{east, west}, {south, north}, {east, south}, {south, west}, {west, north}, {north, east}}

// tracks are rails of w times h tiles with some sets, which are not wired.
func tracks(w, h int, setOf map[int]int) api.Rails {
	r := api.Rails{W: w, H: h, Sets: make([]int, w*h), Wired: make([]bool, w*h)}
	for tile, set := range setOf {
		r.Sets[tile] = set
	}
	return r
}

// line are rails of 8 times 4 tiles whose uppermost row is one track.
func line() api.Rails {
	r := tracks(8, 4, nil)
	for tile := range 8 {
		r.Sets[tile] = 1
	}
	return r
}

// full are rails with all pieces on all tiles.
func full(w, h int) api.Rails {
	r := tracks(w, h, nil)
	for tile := range r.Sets {
		r.Sets[tile], r.Wired[tile] = 63, true
	}
	return r
}

// scattered are rails with pieces by chance, of few to each tile or many.
func scattered(chance *rand.Rand, w, h int) api.Rails {
	r := tracks(w, h, nil)
	bare := 1 + chance.IntN(4)
	for tile := range r.Sets {
		if chance.IntN(bare) == 0 {
			r.Sets[tile] = [6]int{63, 1, 2, chance.IntN(64), 1 << chance.IntN(6), 1<<chance.IntN(6) | 1<<chance.IntN(6)}[chance.IntN(6)]
		}
		r.Wired[tile] = r.Sets[tile] > 0 && chance.IntN(3) == 0
	}
	return r
}

// spotsOf are all spots of rails, ascending.
func spotsOf(r api.Rails) []api.Spot {
	var list []api.Spot
	for tile, set := range r.Sets {
		for piece, two := range joins {
			if set>>piece&1 == 1 {
				list = append(list, api.Spot{Tile: tile, Piece: piece, To: min(two[0], two[1])}, api.Spot{Tile: tile, Piece: piece, To: max(two[0], two[1])})
			}
		}
	}
	return list
}

// signalled are signals by chance at one of so many spots, of kinds that are
// among some.
func signalled(chance *rand.Rand, r api.Rails, rare, most int, kinds ...int) []api.Signal {
	var list []api.Signal
	for _, s := range spotsOf(r) {
		if chance.IntN(rare) == 0 && len(list) < most {
			list = append(list, api.Signal{Tile: s.Tile, Piece: s.Piece, To: s.To, Kind: kinds[chance.IntN(len(kinds))]})
		}
	}
	return list
}

// sign makes a signal on piece 0 to the east.
func sign(tile, kind int) api.Signal {
	return api.Signal{Tile: tile, Piece: 0, To: east, Kind: kind}
}

// middleOf is where on the map the middle of a side of a tile lies.
func middleOf(w, tile, side int) [2]int {
	step := [4][2]int{{1, 0}, {0, 1}, {-1, 0}, {0, -1}}[side]
	return [2]int{2*(tile%w) + step[0], 2*(tile/w) + step[1]}
}

// otherOf is the end of a spot's piece through which it is entered.
func otherOf(s api.Spot) int {
	return joins[s.Piece][0] + joins[s.Piece][1] - s.To
}

// nextOf are the spots of other tiles that are entered where one is left.
func nextOf(r api.Rails, s api.Spot) []api.Spot {
	var list []api.Spot
	for _, n := range spotsOf(r) {
		if n.Tile != s.Tile && middleOf(r.W, n.Tile, otherOf(n)) == middleOf(r.W, s.Tile, s.To) {
			list = append(list, n)
		}
	}
	return list
}

// kindOf is the kind of the signal at a spot, or -1.
func kindOf(l []api.Signal, s api.Spot) int {
	for _, one := range l {
		if one.Tile == s.Tile && one.Piece == s.Piece && one.To == s.To {
			return one.Kind
		}
	}
	return -1
}

func numberOf(s api.Spot) int {
	return 8*s.Tile + s.Piece
}

// parting are the pieces of a tile that do not touch.
var parting = map[[2]int]bool{{2, 4}: true, {4, 2}: true, {3, 5}: true, {5, 3}: true}

// partOf are the numbers of the blocks by the chapter's words: two pieces that
// are next to each other have the lesser number of both, until none changes.
func partOf(r api.Rails, l []api.Signal) map[int]int {
	spots := spotsOf(r)
	blocks := map[int]int{}
	for _, s := range spots {
		blocks[numberOf(s)] = numberOf(s)
	}
	var pairs [][2]int
	for _, a := range spots {
		for _, b := range spots {
			touch := a.Tile == b.Tile && a.Piece != b.Piece && !parting[[2]int{a.Piece, b.Piece}]
			meet := a.Tile != b.Tile && middleOf(r.W, a.Tile, a.To) == middleOf(r.W, b.Tile, b.To)
			if touch || meet && kindOf(l, a) < 0 && kindOf(l, b) < 0 {
				pairs = append(pairs, [2]int{numberOf(a), numberOf(b)})
			}
		}
	}
	for more := true; more; {
		more = false
		for _, p := range pairs {
			if least := min(blocks[p[0]], blocks[p[1]]); blocks[p[0]] != blocks[p[1]] {
				blocks[p[0]], blocks[p[1]], more = least, least, true
			}
		}
	}
	return blocks
}

// listed are the blocks as Blocks tells them.
func listed(blocks map[int]int) []api.Part {
	var list []api.Part
	pieces := slices.Sorted(maps.Keys(blocks))
	for _, number := range pieces {
		part := api.Part{Number: number}
		for _, piece := range pieces {
			if blocks[piece] == number {
				part.Pieces = append(part.Pieces, piece)
			}
		}
		if len(part.Pieces) > 0 {
			list = append(list, part)
		}
	}
	return list
}

func sameParts(a, b []api.Part) bool {
	return slices.EqualFunc(a, b, func(a, b api.Part) bool { return a.Number == b.Number && slices.Equal(a.Pieces, b.Pieces) })
}

// beyondOf are the blocks Beyond a spot.
func beyondOf(r api.Rails, blocks map[int]int, s api.Spot) []int {
	var list []int
	for _, n := range nextOf(r, s) {
		list = append(list, blocks[numberOf(n)])
	}
	slices.Sort(list)
	return slices.Compact(list)
}

// panel is what the rules of what signals show ask.
type panel struct {
	l      []api.Signal
	own    []int
	beyond [][]int
	held   []int
}

func panelOf(r api.Rails, l []api.Signal, held []int) panel {
	blocks := partOf(r, l)
	p := panel{l: l, held: held}
	for _, s := range l {
		p.own = append(p.own, blocks[8*s.Tile+s.Piece])
		p.beyond = append(p.beyond, beyondOf(r, blocks, api.Spot{Tile: s.Tile, Piece: s.Piece, To: s.To}))
	}
	return p
}

// rule tells whether a signal shows go by the chapter's words, if all show
// what they do.
func (p panel) rule(i int, shows []bool) bool {
	if len(p.beyond[i]) == 0 {
		return false
	}
	for _, b := range p.beyond[i] {
		if slices.Contains(p.held, b) {
			return false
		}
	}
	if p.l[i].Kind != entry && p.l[i].Kind != both {
		return true
	}
	for _, b := range p.beyond[i] {
		leading, going := 0, 0
		for j, s := range p.l {
			if (s.Kind == exit || s.Kind == both) && p.own[j] == b && (s.Tile != p.l[i].Tile || s.Piece != p.l[i].Piece) {
				leading++
				if shows[j] {
					going++
				}
			}
		}
		if leading > 0 && going == 0 {
			return false
		}
	}
	return true
}

// least is what all solutions of the rules share: it tries them all.
func (p panel) least() []bool {
	all := slices.Repeat([]bool{true}, len(p.l))
	for bits := range 1 << len(p.l) {
		shows := make([]bool, len(p.l))
		for i := range shows {
			shows[i] = bits>>i&1 == 1
		}
		solves := true
		for i := range shows {
			solves = solves && shows[i] == p.rule(i, shows)
		}
		for i := range shows {
			all[i] = all[i] && (shows[i] || !solves)
		}
	}
	return all
}

// given are an argument's rails and signals, to tell whether they were changed.
type given struct {
	r      api.Rails
	l      []api.Signal
	kept   api.Rails
	signal []api.Signal
}

// give makes arguments with room behind their lists, in which nothing may be
// written either.
func give(r api.Rails, l []api.Signal) given {
	room := append(slices.Clone(l), api.Signal{Tile: 77}, api.Signal{Tile: 78})
	g := given{r: r, l: room[:len(l)], signal: slices.Clone(room)}
	g.kept = api.Rails{W: r.W, H: r.H, Sets: slices.Clone(r.Sets), Wired: slices.Clone(r.Wired)}
	return g
}

func (g given) check(t *testing.T) {
	t.Helper()
	if !slices.Equal(g.r.Sets, g.kept.Sets) || !slices.Equal(g.r.Wired, g.kept.Wired) {
		t.Error("the rails were changed")
	}
	if !slices.Equal(g.l[:len(g.signal)], g.signal) {
		t.Error("the signals were changed")
	}
}

// mustBlocks are Blocks of what is valid.
func mustBlocks(t *testing.T, r api.Rails, l []api.Signal) []api.Part {
	t.Helper()
	parts, e := block.Blocks(r, l)
	if e != api.OK {
		t.Fatalf("Blocks: %d", e)
	}
	return parts
}
