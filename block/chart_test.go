package block_test

import (
	"math/rand/v2"
	"slices"
	"testing"

	"hinterland/api"
	"hinterland/block"
)

func TestP7_2Example(t *testing.T) {
	r := tracks(5, 4, map[int]int{6: 1, 7: 1})
	if l := mustBlocks(t, r, nil); !sameParts(l, []api.Part{{Number: 48, Pieces: []int{48, 56}}}) {
		t.Errorf("without a signal: %v", l)
	}
	two := []api.Part{{Number: 48, Pieces: []int{48}}, {Number: 56, Pieces: []int{56}}}
	for kind := range 6 {
		if l := mustBlocks(t, r, []api.Signal{{Tile: 6, Piece: 0, To: 0, Kind: kind}}); !sameParts(l, two) {
			t.Errorf("a signal of kind %d on the western one: %v", kind, l)
		}
		if l := mustBlocks(t, r, []api.Signal{{Tile: 7, Piece: 0, To: 2, Kind: kind}}); !sameParts(l, two) {
			t.Errorf("a signal of kind %d on the eastern one: %v", kind, l)
		}
	}
	far := []api.Signal{{Tile: 6, Piece: 0, To: 2}, {Tile: 7, Piece: 0, To: 0}}
	if l := mustBlocks(t, r, far); len(l) != 1 {
		t.Errorf("signals at the far ends: %v", l)
	}
}

// A signal in the middle of a track makes two blocks of one (example 4 of the
// document).
func TestP7_2Line(t *testing.T) {
	want := []api.Part{{Number: 0, Pieces: []int{0, 8, 16, 24}}, {Number: 32, Pieces: []int{32, 40, 48, 56}}}
	if l := mustBlocks(t, line(), []api.Signal{sign(3, plain)}); !sameParts(l, want) {
		t.Errorf("%v", l)
	}
	if l := mustBlocks(t, tracks(4, 4, nil), nil); len(l) != 0 {
		t.Errorf("no tracks: %v", l)
	}
}

func TestP7_2OneTile(t *testing.T) {
	for a := range 6 {
		for b := a + 1; b < 6; b++ {
			want := 1
			if a == 2 && b == 4 || a == 3 && b == 5 {
				want = 2
			}
			if l := mustBlocks(t, tracks(4, 4, map[int]int{5: 1<<a | 1<<b}), nil); len(l) != want {
				t.Errorf("pieces %d and %d: %v", a, b, l)
			}
		}
	}
	// opposite curves hang together by a third piece
	if l := mustBlocks(t, tracks(4, 4, map[int]int{5: 1<<2 | 1<<4 | 1<<0}), nil); !sameParts(l, []api.Part{{Number: 40, Pieces: []int{40, 42, 44}}}) {
		t.Errorf("three pieces: %v", l)
	}
}

func TestP7_2BesideByHand(t *testing.T) {
	tests := []struct {
		name string
		sets map[int]int
		l    []api.Signal
		want []api.Part
	}{
		{"the border of rows", map[int]int{4: 1, 5: 1}, nil, []api.Part{{Number: 32, Pieces: []int{32}}, {Number: 40, Pieces: []int{40}}}},
		{"south and north", map[int]int{6: 2, 11: 2}, nil, []api.Part{{Number: 49, Pieces: []int{49, 89}}}},
		{"ends that do not meet", map[int]int{6: 1, 7: 2}, nil, []api.Part{{Number: 48, Pieces: []int{48}}, {Number: 57, Pieces: []int{57}}}},
		{"a ring", map[int]int{6: 4, 7: 8, 11: 32, 12: 16}, nil, []api.Part{{Number: 50, Pieces: []int{50, 59, 93, 100}}}},
		{"a ring that is cut once", map[int]int{6: 4, 7: 8, 11: 32, 12: 16}, []api.Signal{{Tile: 6, Piece: 2, To: 0}}, []api.Part{{Number: 50, Pieces: []int{50, 59, 93, 100}}}},
		{"a ring that is cut twice", map[int]int{6: 4, 7: 8, 11: 32, 12: 16}, []api.Signal{{Tile: 6, Piece: 2, To: 0}, {Tile: 11, Piece: 5, To: 0}}, []api.Part{{Number: 50, Pieces: []int{50, 93}}, {Number: 59, Pieces: []int{59, 100}}}},
		// a signal cuts its piece alone: the branch that touches it goes on
		{"a fork past the signal", map[int]int{6: 1 + 4, 7: 1}, []api.Signal{{Tile: 6, Piece: 0, To: 0}}, []api.Part{{Number: 48, Pieces: []int{48, 50, 56}}}},
		{"a fork that is cut", map[int]int{6: 1 + 4, 7: 1}, []api.Signal{{Tile: 6, Piece: 0, To: 0}, {Tile: 6, Piece: 2, To: 0}}, []api.Part{{Number: 48, Pieces: []int{48, 50}}, {Number: 56, Pieces: []int{56}}}},
		{"a fork that is cut beyond", map[int]int{6: 1 + 4, 7: 1}, []api.Signal{{Tile: 7, Piece: 0, To: 2}}, []api.Part{{Number: 48, Pieces: []int{48, 50}}, {Number: 56, Pieces: []int{56}}}},
		{"parting curves of two tracks", map[int]int{5: 1, 6: 4 + 16, 7: 1}, nil, []api.Part{{Number: 40, Pieces: []int{40, 52}}, {Number: 50, Pieces: []int{50, 56}}}},
		{"a bridge of tiles", map[int]int{0: 2, 5: 2, 10: 2, 15: 2, 4: 2, 9: 2}, []api.Signal{{Tile: 5, Piece: 1, To: 1}}, []api.Part{{Number: 1, Pieces: []int{1, 41}}, {Number: 33, Pieces: []int{33, 73}}, {Number: 81, Pieces: []int{81, 121}}}},
	}
	for _, test := range tests {
		r := tracks(5, 4, test.sets)
		if l := mustBlocks(t, r, test.l); !sameParts(l, test.want) {
			t.Errorf("%s: %v, want %v", test.name, l, test.want)
		}
	}
}

func TestP7_2ByTheMap(t *testing.T) {
	chance := rand.New(rand.NewPCG(7, 2))
	several := 0
	for seed := range 300 {
		r := scattered(chance, 4+chance.IntN(3), 4+chance.IntN(3))
		l := signalled(chance, r, 1+chance.IntN(12), 300, 0, 1, 2, 3, 4, 5)
		g := give(r, l)
		blocks := partOf(r, l)
		parts, e := block.Blocks(g.r, g.l)
		if want := listed(blocks); e != api.OK || !sameParts(parts, want) {
			t.Fatalf("seed %d: %v, %d, want %v", seed, parts, e, want)
		}
		for _, part := range parts {
			if len(part.Pieces) > 1 {
				several++
			}
		}
		for tile := range r.Sets {
			for piece := range 6 {
				n, e := block.Of(g.r, g.l, tile, piece)
				if want, ok := blocks[8*tile+piece]; n != want || (e == api.OK) != ok || !ok && e != api.ErrNone {
					t.Fatalf("seed %d, tile %d, piece %d: %d, %d, want %d", seed, tile, piece, n, e, want)
				}
			}
		}
		for i := range parts { // no list lies in the memory of another one
			parts[i].Pieces = append(parts[i].Pieces, -1)
		}
		for i, want := range listed(blocks) {
			if !slices.Equal(parts[i].Pieces, append(want.Pieces, -1)) {
				t.Fatalf("seed %d: part %d shares memory", seed, i)
			}
		}
		g.check(t)
	}
	if several < 300 {
		t.Errorf("%d blocks of several pieces", several)
	}
}

func TestP7_2OfErrors(t *testing.T) {
	r := tracks(5, 4, map[int]int{6: 1 + 4, 7: 1, 0: 1, 19: 63})
	l := []api.Signal{{Tile: 6, Piece: 0, To: 2}}
	m, e := block.New(r, l)
	if e != api.OK {
		t.Fatal(e)
	}
	for _, place := range [][2]int{{6, 1}, {6, 3}, {6, 6}, {6, -1}, {6, 8}, {5, 0}, {5, 8}, {0, 48}, {-1, 0}, {-1, 8}, {-2, 16}, {20, 0}, {19, 6}, {19, -1}, {19, 7}, {minInt, 0}, {maxInt, 0}, {6, minInt}, {6, maxInt}, {minInt, minInt}} {
		if n, e := block.Of(r, l, place[0], place[1]); e != api.ErrNone || n != 0 {
			t.Errorf("%v: %d, %d", place, n, e)
		}
		if n, e := m.Of(place[0], place[1]); e != api.ErrNone || n != 0 {
			t.Errorf("Map, %v: %d, %d", place, n, e)
		}
	}
	for piece, want := range map[int]int{0: 48, 2: 48} {
		if n, e := block.Of(r, l, 6, piece); e != api.OK || n != want {
			t.Errorf("piece %d: %d, %d", piece, n, e)
		}
	}
}

func TestP7_3BeyondByHand(t *testing.T) {
	// a fork to the east of the tile 5 into pieces that signals part from it
	r := tracks(5, 4, map[int]int{5: 1, 6: 1 + 8 + 16, 7: 1, 11: 2, 1: 2})
	cut := []api.Signal{{Tile: 6, Piece: 0, To: 2}, {Tile: 6, Piece: 3, To: 2}, {Tile: 6, Piece: 4, To: 2}}
	tests := []struct {
		l    []api.Signal
		s    api.Spot
		want []int
	}{
		{nil, api.Spot{Tile: 5, Piece: 0, To: 0}, []int{9}},
		{nil, api.Spot{Tile: 7, Piece: 0, To: 2}, []int{9}},
		{nil, api.Spot{Tile: 7, Piece: 0, To: 0}, nil},
		{nil, api.Spot{Tile: 5, Piece: 0, To: 2}, nil},
		{cut, api.Spot{Tile: 5, Piece: 0, To: 0}, []int{9}},
		{cut, api.Spot{Tile: 6, Piece: 3, To: 2}, []int{40}},
		{cut, api.Spot{Tile: 6, Piece: 0, To: 2}, []int{40}},
	}
	for i, test := range tests {
		if l, e := block.Beyond(r, test.l, test.s); e != api.OK || !slices.Equal(l, test.want) {
			t.Errorf("test %d: %v, %d, want %v", i, l, e, test.want)
		}
	}
}

func TestP7_3BeyondByTheMap(t *testing.T) {
	chance := rand.New(rand.NewPCG(7, 3))
	lengths := map[int]int{}
	for seed := range 150 {
		r := scattered(chance, 4+chance.IntN(3), 4+chance.IntN(3))
		l := signalled(chance, r, 1+chance.IntN(5), 300, 0, 4)
		g := give(r, l)
		blocks := partOf(r, l)
		for _, s := range spotsOf(r) {
			list, e := block.Beyond(g.r, g.l, s)
			if want := beyondOf(r, blocks, s); e != api.OK || !slices.Equal(list, want) {
				t.Fatalf("seed %d, %v: %v, %d, want %v", seed, s, list, e, want)
			}
			lengths[len(list)]++
		}
		g.check(t)
	}
	// all pieces behind a spot have an end at one side, so that they touch
	if lengths[0] < 1000 || lengths[1] < 1000 || len(lengths) > 2 {
		t.Errorf("how many blocks were beyond: %v", lengths)
	}
}

// wrongSpots are spots of tracks with the pieces 0 and 2 on the tile 6 and 0
// on the tile 7, with what rail.Next says of them.
func wrongSpots() map[api.Spot]api.Errno {
	return map[api.Spot]api.Errno{
		{Tile: 6, Piece: -1}:                      api.ErrArg,
		{Tile: 6, Piece: 6}:                       api.ErrArg,
		{Tile: 6, Piece: minInt, To: minInt}:      api.ErrArg,
		{Tile: maxInt, Piece: maxInt, To: maxInt}: api.ErrArg,
		{Tile: 6, Piece: 0, To: 1}:                api.ErrArg,
		{Tile: 6, Piece: 0, To: -1}:               api.ErrArg,
		{Tile: 6, Piece: 2, To: 4}:                api.ErrArg,
		{Tile: -1, Piece: 0, To: 3}:               api.ErrArg,
		{Tile: 6, Piece: 3, To: 0}:                api.ErrArg, // does not lie either
		{Tile: -1, Piece: 0, To: 2}:               api.ErrNone,
		{Tile: 20, Piece: 0, To: 2}:               api.ErrNone,
		{Tile: minInt, Piece: 2, To: 1}:           api.ErrNone,
		{Tile: maxInt, Piece: 2, To: 1}:           api.ErrNone,
		{Tile: 6, Piece: 1, To: 1}:                api.ErrNone,
		{Tile: 5, Piece: 0, To: 0}:                api.ErrNone,
		{Tile: 7, Piece: 2, To: 0}:                api.ErrNone,
	}
}

func TestP7_3BeyondErrors(t *testing.T) {
	r := tracks(5, 4, map[int]int{6: 1 + 4, 7: 1})
	for s, want := range wrongSpots() {
		if l, e := block.Beyond(r, nil, s); e != want || l != nil {
			t.Errorf("%v: %v, %d, want %d", s, l, e, want)
		}
	}
}
