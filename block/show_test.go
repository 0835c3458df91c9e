package block_test

import (
	"math/rand/v2"
	"slices"
	"testing"

	"hinterland/api"
	"hinterland/block"
)

// show is Shows of what is valid, as a text: a `g` for each signal that shows
// go, a `.` for another one.
func show(t *testing.T, r api.Rails, l []api.Signal, held ...int) string {
	t.Helper()
	g := give(r, l)
	kept := slices.Clone(held)
	shows, e := block.Shows(g.r, g.l, held)
	if e != api.OK || len(shows) != len(l) {
		t.Fatalf("Shows: %v, %d", shows, e)
	}
	g.check(t)
	if !slices.Equal(held, kept) {
		t.Error("the blocks that are held were changed")
	}
	text := ""
	for _, is := range shows {
		if is {
			text += "g"
		} else {
			text += "."
		}
	}
	return text
}

// The signals of a line stand on the tiles 1, 3 and 5; its blocks are 0, 16,
// 32 and 48.
func TestP7_3ShowsOnALine(t *testing.T) {
	tests := []struct {
		kinds [3]int
		held  []int
		want  string
	}{
		{[3]int{plain, plain, plain}, nil, "ggg"},
		{[3]int{plain, plain, plain}, []int{16}, ".gg"},
		{[3]int{plain, plain, plain}, []int{32, 0}, "g.g"},
		{[3]int{plain, exit, path}, []int{48}, "gg."},
		{[3]int{path, oneWay, exit}, []int{16, 48, 16}, ".g."},
		{[3]int{path, oneWay, exit}, []int{32}, "g.g"},
		{[3]int{path, oneWay, exit}, []int{0, 1, 8, 24, 40, 56, -1, minInt, maxInt, 17}, "ggg"}, // all but 0 are no blocks
		{[3]int{entry, plain, plain}, nil, "ggg"},
		{[3]int{entry, plain, plain}, []int{32}, "g.g"},
		{[3]int{entry, path, plain}, []int{32}, "g.g"},
		{[3]int{entry, oneWay, plain}, []int{32}, "g.g"},
		{[3]int{entry, entry, exit}, []int{48}, "g.."}, // no exit leads out of 16
		{[3]int{entry, exit, plain}, nil, "ggg"},
		{[3]int{entry, exit, plain}, []int{32}, "..g"},
		{[3]int{entry, exit, plain}, []int{48}, "gg."},
		{[3]int{entry, exit, plain}, []int{16}, ".gg"},
		{[3]int{entry, both, exit}, nil, "ggg"},
		{[3]int{entry, both, exit}, []int{48}, "..."},
		{[3]int{both, both, both}, nil, "ggg"},
		{[3]int{both, both, both}, []int{48}, "..."},
		{[3]int{both, both, both}, []int{32}, "..g"},
		{[3]int{both, both, both}, []int{16}, ".gg"},
		{[3]int{both, exit, both}, []int{48}, "gg."},
		{[3]int{exit, exit, exit}, []int{48}, "gg."},
		{[3]int{plain, both, exit}, []int{48}, "g.."},
		{[3]int{entry, both, plain}, []int{48}, "gg."},
	}
	for i, test := range tests {
		l := []api.Signal{sign(1, test.kinds[0]), sign(3, test.kinds[1]), sign(5, test.kinds[2])}
		if got := show(t, line(), l, test.held...); got != test.want {
			t.Errorf("test %d: %s, want %s", i, got, test.want)
		}
	}
	if got := show(t, line(), nil, 0); got != "" {
		t.Errorf("no signals: %s", got)
	}
}

// There must be a block Beyond, whatever the kind.
func TestP7_3ShowsAtTheEnd(t *testing.T) {
	for kind := range 6 {
		l := []api.Signal{{Tile: 0, Piece: 0, To: 2, Kind: kind}, sign(7, kind)}
		if got := show(t, line(), l); got != ".." {
			t.Errorf("kind %d: %s", kind, got)
		}
		r := line()
		r.Sets[4] = 2
		if got := show(t, r, []api.Signal{sign(3, kind)}); got != "." {
			t.Errorf("kind %d ahead of a piece that it does not meet: %s", kind, got)
		}
	}
}

// An entry signal that sees two exits asks for one that shows go.
func TestP7_3ShowsAtAFork(t *testing.T) {
	// from the tile 0 to 1, where one way goes on to 2 and 3, one to 6 and 11
	r := tracks(5, 4, map[int]int{0: 1, 1: 1 + 8, 2: 1, 3: 1, 6: 2, 11: 2})
	l := []api.Signal{sign(0, entry), sign(2, exit), {Tile: 6, Piece: 1, To: 1, Kind: exit}}
	for _, test := range []struct {
		held []int
		want string
	}{
		{nil, "ggg"},
		{[]int{24}, "g.g"},
		{[]int{89}, "gg."},
		{[]int{24, 89}, "..."},
		{[]int{8}, ".gg"},
	} {
		if got := show(t, r, l, test.held...); got != test.want {
			t.Errorf("held %v: %s, want %s", test.held, got, test.want)
		}
	}
	l[1].Kind, l[2].Kind = both, plain
	if got := show(t, r, l, 89); got != "gg." {
		t.Errorf("a plain signal asked: %s", got)
	}
	if got := show(t, r, l, 24); got != "..g" {
		t.Errorf("a plain signal counted: %s", got)
	}
}

// An exit that leads out where one comes in counts too.
func TestP7_3ShowsBackwards(t *testing.T) {
	l := []api.Signal{sign(1, entry), {Tile: 2, Piece: 0, To: 2, Kind: exit}}
	if got := show(t, line(), l); got != "gg" {
		t.Errorf("free: %s", got)
	}
	if got := show(t, line(), l, 0); got != ".." {
		t.Errorf("what it leads to is held: %s", got)
	}
}

// ring are rails of a ring of four curves, and its signals that lead round it
// from the tile 6 by 7 and 12 to 11.
func ring(kinds ...int) (api.Rails, []api.Signal) {
	l := []api.Signal{{Tile: 6, Piece: 2, To: 0}, {Tile: 7, Piece: 3, To: 1}, {Tile: 11, Piece: 5, To: 3}, {Tile: 12, Piece: 4, To: 2}}
	var list []api.Signal
	for i, s := range l {
		if kinds[i] >= 0 {
			s.Kind = kinds[i]
			list = append(list, s)
		}
	}
	return tracks(5, 4, map[int]int{6: 4, 7: 8, 11: 32, 12: 16}), list
}

// Where both signals ask each other, none shows go, but for what another one
// brings about.
func TestP7_3ShowsLeast(t *testing.T) {
	tests := []struct {
		kinds []int
		held  []int
		want  string
	}{
		{[]int{both, -1, -1, both}, nil, ".."},
		{[]int{both, both, both, both}, nil, "...."},
		{[]int{both, both, exit, both}, nil, "gggg"},
		{[]int{both, both, exit, both}, []int{50}, "...."},
		{[]int{both, both, exit, both}, []int{59}, ".ggg"},
		{[]int{both, both, plain, both}, nil, "gggg"},
		{[]int{both, both, entry, both}, nil, "gggg"},
		{[]int{both, both, plain, both}, []int{50}, "gg.g"},
		{[]int{entry, entry, entry, entry}, nil, "gggg"},
		{[]int{entry, both, entry, both}, nil, "gggg"},
		{[]int{both, -1, -1, -1}, nil, "g"}, // none leads out of its own block but itself
		{[]int{both, -1, -1, -1}, []int{50}, "."},
	}
	for i, test := range tests {
		r, l := ring(test.kinds...)
		if got := show(t, r, l, test.held...); got != test.want {
			t.Errorf("test %d: %s, want %s", i, got, test.want)
		}
	}
}

// A fork of the tile 6, whose signal on piece 0 leads into its own block, by
// piece 2.
func TestP7_3ShowsOnOnePiece(t *testing.T) {
	r := tracks(5, 4, map[int]int{6: 1 + 4, 7: 1, 11: 2})
	two := []api.Signal{{Tile: 6, Piece: 0, To: 0, Kind: entry}, {Tile: 6, Piece: 0, To: 2, Kind: exit}}
	if got := show(t, r, two); got != "g." {
		t.Errorf("an exit on the same piece: %s", got)
	}
	three := append(slices.Clone(two), api.Signal{Tile: 7, Piece: 0, To: 0, Kind: exit})
	if got := show(t, r, three); got != "..." {
		t.Errorf("and one on another tile: %s", got)
	}
	r.Sets[6] |= 8
	other := append(slices.Clone(two), api.Signal{Tile: 6, Piece: 3, To: 1, Kind: exit})
	if got := show(t, r, other); got != "g.g" {
		t.Errorf("and one on another piece of the tile: %s", got)
	}
	r.Sets[11] = 0
	if got := show(t, r, other); got != "..." {
		t.Errorf("and one on another piece that shows stop: %s", got)
	}
}

func TestP7_3ShowsByTheRules(t *testing.T) {
	chance := rand.New(rand.NewPCG(7, 33))
	shown := map[bool]int{}
	for seed := range 500 {
		r := scattered(chance, 4, 4)
		kinds := [][]int{{0, 1, 2, 3, 4, 5}, {3}, {1, 3}, {1, 2, 3}}[chance.IntN(4)]
		l := signalled(chance, r, 1+chance.IntN(8), 7, kinds...)
		parts := mustBlocks(t, r, l)
		var held []int
		for _, part := range parts {
			if chance.IntN(4) == 0 {
				held = append(held, part.Number)
			}
			if chance.IntN(8) == 0 {
				held = append(held, part.Pieces[len(part.Pieces)-1])
			}
		}
		shows, e := block.Shows(r, l, held)
		if want := panelOf(r, l, held).least(); e != api.OK || !slices.Equal(shows, want) {
			t.Fatalf("seed %d: %v, %d, want %v", seed, shows, e, want)
		}
		for i, s := range l {
			if s.Kind == both || s.Kind == entry {
				shown[shows[i]]++
			}
		}
	}
	if shown[true] < 100 || shown[false] < 100 {
		t.Errorf("what entry and both signals showed: %v", shown)
	}
}

func TestP7_4May(t *testing.T) {
	from, on := api.Spot{Tile: 3, Piece: 0, To: 0}, api.Spot{Tile: 4, Piece: 0, To: 0}
	own := func(kind int) api.Signal { return sign(3, kind) }
	against := func(kind int) api.Signal { return api.Signal{Tile: 4, Piece: 0, To: 2, Kind: kind} }
	far := []api.Signal{{Tile: 3, Piece: 0, To: 2, Kind: plain}, sign(4, plain)}
	if is, e := block.May(line(), nil, from, on); e != api.OK || !is {
		t.Errorf("without signals: %t, %d", is, e)
	}
	if is, e := block.May(line(), far, from, on); e != api.OK || !is {
		t.Errorf("signals at other joints: %t, %d", is, e)
	}
	for kind := range 6 {
		if is, e := block.May(line(), []api.Signal{own(kind)}, from, on); e != api.OK || !is {
			t.Errorf("its own signal of kind %d: %t, %d", kind, is, e)
		}
		if is, e := block.May(line(), []api.Signal{against(kind)}, from, on); e != api.OK || is != (kind == path) {
			t.Errorf("against a signal of kind %d: %t, %d", kind, is, e)
		}
		if is, e := block.May(line(), []api.Signal{far[0], against(kind), far[1]}[:2], from, on); e != api.OK || is != (kind == path) {
			t.Errorf("with another signal, against one of kind %d: %t, %d", kind, is, e)
		}
		for other := range 6 {
			if is, e := block.May(line(), []api.Signal{own(other), against(kind)}, from, on); e != api.OK || !is {
				t.Errorf("kind %d, its own one of kind %d: %t, %d", kind, other, is, e)
			}
		}
	}
}

func TestP7_4MayByTheMap(t *testing.T) {
	chance := rand.New(rand.NewPCG(7, 4))
	count := map[bool]int{}
	for seed := range 60 {
		r := scattered(chance, 4+chance.IntN(2), 4+chance.IntN(2))
		l := signalled(chance, r, 1+chance.IntN(4), 300, 0, 1, 2, 3, 4, 4, 5)
		g := give(r, l)
		for _, s := range spotsOf(r) {
			for _, n := range nextOf(r, s) {
				kind := kindOf(l, api.Spot{Tile: n.Tile, Piece: n.Piece, To: otherOf(n)})
				want := kindOf(l, s) >= 0 || kind < 0 || kind == path
				if is, e := block.May(g.r, g.l, s, n); e != api.OK || is != want {
					t.Fatalf("seed %d, %v to %v: %t, %d, want %t", seed, s, n, is, e, want)
				}
				count[want]++
			}
		}
		g.check(t)
	}
	if count[true] < 500 || count[false] < 100 {
		t.Errorf("passed and not: %v", count)
	}
}

func TestP7_4MayErrors(t *testing.T) {
	r := tracks(5, 4, map[int]int{6: 1 + 4, 7: 1})
	good := api.Spot{Tile: 7, Piece: 0, To: 2}
	for s, want := range wrongSpots() {
		for _, n := range []api.Spot{good, s, {Tile: 6, Piece: 0, To: 2}} {
			if is, e := block.May(r, nil, s, n); e != want || is {
				t.Errorf("%v to %v: %t, %d, want %d", s, n, is, e, want)
			}
		}
		if is, e := block.May(r, nil, good, s); e != api.ErrFit || is {
			t.Errorf("to %v: %t, %d", s, is, e)
		}
	}
	signals := []api.Signal{{Tile: 7, Piece: 0, To: 2}}
	for n, want := range map[api.Spot]api.Errno{
		{Tile: 6, Piece: 0, To: 2}: api.OK,
		{Tile: 6, Piece: 2, To: 1}: api.OK,
		{Tile: 6, Piece: 0, To: 0}: api.ErrFit, // the other direction
		{Tile: 6, Piece: 2, To: 0}: api.ErrFit,
		{Tile: 6, Piece: 2, To: 2}: api.ErrFit,
		{Tile: 5, Piece: 0, To: 2}: api.ErrFit,
		{Tile: 7, Piece: 0, To: 2}: api.ErrFit,
		{Tile: 7, Piece: 0, To: 0}: api.ErrFit,
		{}:                         api.ErrFit,
	} {
		for _, l := range [][]api.Signal{nil, signals} {
			if is, e := block.May(r, l, good, n); e != want || is != (want == api.OK) {
				t.Errorf("to %v: %t, %d, want %d", n, is, e, want)
			}
		}
	}
	if is, e := block.May(r, nil, api.Spot{Tile: 7, Piece: 0, To: 0}, api.Spot{Tile: 8, Piece: 0, To: 0}); e != api.ErrFit || is {
		t.Errorf("from where nothing follows: %t, %d", is, e)
	}
}
