package rail_test

import (
	"math"
	"math/rand/v2"
	"slices"
	"testing"

	"hinterland/api"
	"hinterland/rail"
)

const (
	minInt = math.MinInt
	maxInt = math.MaxInt
)

// joins are the sides of each piece, in the words of the chapter.
var joins = []string{"east west", "south north", "east south", "south west", "west north", "north east"}

// numberOf are the numbers of the sides, from layer 2.
var numberOf = map[string]int{"east": 0, "south": 1, "west": 2, "north": 3}

// bare are rails without pieces.
func bare(w, h int) api.Rails {
	return api.Rails{W: w, H: h, Sets: make([]int, w*h), Wired: make([]bool, w*h)}
}

// tracks are rails of 5 times 4 tiles with some sets, which are not wired.
func tracks(setOf map[int]int) api.Rails {
	r := bare(5, 4)
	for tile, set := range setOf {
		r.Sets[tile] = set
	}
	return r
}

// scattered are rails with pieces by chance: of 8 tiles some are empty, some
// full, some wired.
func scattered(seed uint64, w, h int) api.Rails {
	chance := rand.New(rand.NewPCG(seed, 3))
	r := bare(w, h)
	for tile := range r.Sets {
		r.Sets[tile] = [8]int{0, 0, 63, 1, 2, chance.IntN(64), chance.IntN(64), 1 << chance.IntN(6)}[chance.IntN(8)]
		r.Wired[tile] = r.Sets[tile] > 0 && chance.IntN(3) > 0
	}
	return r
}

func copied(r api.Rails) api.Rails {
	return api.Rails{W: r.W, H: r.H, Sets: slices.Clone(r.Sets), Wired: slices.Clone(r.Wired)}
}

func same(a, b api.Rails) bool {
	return a.W == b.W && a.H == b.H && slices.Equal(a.Sets, b.Sets) && slices.Equal(a.Wired, b.Wired)
}

func isNone(r api.Rails) bool {
	return r.W == 0 && r.H == 0 && r.Sets == nil && r.Wired == nil
}

// wrongRails are rails that Validate refuses.
func wrongRails() map[string]api.Rails {
	change := func(f func(*api.Rails)) api.Rails {
		r := tracks(map[int]int{7: 63})
		f(&r)
		return r
	}
	return map[string]api.Rails{
		"nothing":       {},
		"narrow":        bare(3, 4),
		"low":           bare(4, 3),
		"wide":          bare(33, 4),
		"high":          bare(4, 33),
		"below 0":       change(func(r *api.Rails) { r.W, r.H = -5, -4 }),
		"without sets":  change(func(r *api.Rails) { r.Sets = nil }),
		"without wires": change(func(r *api.Rails) { r.Wired = nil }),
		"a set less":    change(func(r *api.Rails) { r.Sets = r.Sets[1:] }),
		"a set more":    change(func(r *api.Rails) { r.Sets = append(r.Sets, 0) }),
		"a wire less":   change(func(r *api.Rails) { r.Wired = r.Wired[1:] }),
		"a wire more":   change(func(r *api.Rails) { r.Wired = append(r.Wired, false) }),
		"turned":        change(func(r *api.Rails) { r.W, r.H = 5, 5 }),
		"a set of -1":   change(func(r *api.Rails) { r.Sets[0] = -1 }),
		"a set of 64":   change(func(r *api.Rails) { r.Sets[19] = 64 }),
		"least set":     change(func(r *api.Rails) { r.Sets[3] = minInt }),
		"greatest set":  change(func(r *api.Rails) { r.Sets[3] = maxInt }),
		"wire alone":    change(func(r *api.Rails) { r.Wired[0] = true }),
		"last alone":    change(func(r *api.Rails) { r.Wired[19] = true }),
		"no product":    {W: 1 << 32, H: 1 << 32},
		"greatest":      {W: maxInt, H: maxInt, Sets: []int{1}, Wired: []bool{true}},
		"least":         {W: minInt, H: minInt},
	}
}

func TestP3_1Validate(t *testing.T) {
	for name, r := range wrongRails() {
		if e := rail.Validate(r); e != api.ErrArg {
			t.Errorf("%s: %d", name, e)
		}
	}
	full := bare(32, 32)
	for tile := range full.Sets {
		full.Sets[tile], full.Wired[tile] = 63, true
	}
	for i, r := range []api.Rails{bare(4, 4), bare(32, 4), bare(4, 32), full, tracks(map[int]int{0: 1, 19: 63}), scattered(1, 9, 7)} {
		if e := rail.Validate(r); e != api.OK {
			t.Errorf("rails %d: %d", i, e)
		}
	}
	for set := range 64 {
		r := tracks(map[int]int{4: set})
		if e := rail.Validate(r); e != api.OK {
			t.Errorf("set %d: %d", set, e)
		}
		r.Wired[4] = true
		if e := rail.Validate(r); (e == api.OK) != (set > 0) {
			t.Errorf("set %d, wired: %d", set, e)
		}
	}
}

// R2: whatever else is wrong, wrong rails come first.
func TestP3_1WrongRailsComeFirst(t *testing.T) {
	s := api.Spot{Tile: -1, Piece: 9, To: 9}
	for name, r := range wrongRails() {
		laid, e := rail.Lay(r, -1, 1, true)
		if e != api.ErrArg || !isNone(laid) {
			t.Errorf("Lay, %s: %v, %d", name, laid, e)
		}
		lifted, e := rail.Lift(r, -1, 1)
		if e != api.ErrArg || !isNone(lifted) {
			t.Errorf("Lift, %s: %v, %d", name, lifted, e)
		}
		if l, e := rail.Next(r, api.Spot{Tile: -1}); e != api.ErrArg || l != nil {
			t.Errorf("Next, %s: %v, %d", name, l, e)
		}
		for _, from := range [][]api.Spot{nil, {s}, {{Tile: maxInt}}} {
			if l, e := rail.Reach(r, from, true); e != api.ErrArg || l != nil {
				t.Errorf("Reach, %s: %v, %d", name, l, e)
			}
			if e := rail.Way(r, from); e != api.ErrArg {
				t.Errorf("Way, %s: %d", name, e)
			}
		}
		if l, e := rail.Loose(r); e != api.ErrArg || l != nil {
			t.Errorf("Loose, %s: %v, %d", name, l, e)
		}
		if text, e := rail.Text(r); e != api.ErrArg || text != "" {
			t.Errorf("Text, %s: %q, %d", name, text, e)
		}
	}
}

func TestP3_2Ends(t *testing.T) {
	want := [][2]int{{0, 2}, {1, 3}, {0, 1}, {1, 2}, {2, 3}, {3, 0}}
	for piece, two := range want {
		if a, b, e := rail.Ends(piece); a != two[0] || b != two[1] || e != api.OK {
			t.Errorf("piece %d: %d, %d, %d", piece, a, b, e)
		}
	}
	for _, piece := range []int{-1, 6, minInt, maxInt} {
		if a, b, e := rail.Ends(piece); a != 0 || b != 0 || e != api.ErrArg {
			t.Errorf("piece %d: %d, %d, %d", piece, a, b, e)
		}
	}
}

func TestP3_2Back(t *testing.T) {
	other := map[[2]int]int{
		{0, 0}: 2, {0, 2}: 0, {1, 1}: 3, {1, 3}: 1, {2, 0}: 1, {2, 1}: 0,
		{3, 1}: 2, {3, 2}: 1, {4, 2}: 3, {4, 3}: 2, {5, 3}: 0, {5, 0}: 3,
	}
	numbers := []int{minInt, -6, -5, -4, -3, -2, -1, 0, 1, 2, 3, 4, 5, 6, 7, 8, maxInt}
	for _, piece := range numbers {
		for _, side := range numbers {
			to, ok := other[[2]int{piece, side}]
			for _, tile := range []int{minInt, -1, 0, 31, 1024, maxInt} {
				back, e := rail.Back(api.Spot{Tile: tile, Piece: piece, To: side})
				if ok && (e != api.OK || back != api.Spot{Tile: tile, Piece: piece, To: to}) {
					t.Errorf("tile %d, piece %d to %d: %v, %d", tile, piece, side, back, e)
				}
				if !ok && (e != api.ErrArg || back != api.Spot{}) {
					t.Errorf("tile %d, piece %d to %d: %v, %d", tile, piece, side, back, e)
				}
			}
		}
	}
}

// costOf is P3.3 by the four corners, north-west, north-east, south-east,
// south-west: a straight piece alone needs no foundation where the corners of
// one of its ends are both high and those of the other one both low.
func costOf(slope, set int) (int, api.Errno) {
	high := [4]bool{slope&1 > 0, slope&2 > 0, slope&4 > 0, slope&8 > 0}
	if set == 0 {
		return 0, api.OK
	}
	if slope >= 16 {
		return 0, api.ErrSlope
	}
	sum := 0
	for s := set; s > 0; s /= 2 {
		sum += s % 2 * 300
	}
	eastOrWest := high[1] == high[2] && high[0] == high[3] && high[0] != high[1]
	northOrSouth := high[0] == high[1] && high[2] == high[3] && high[0] != high[2]
	if slope > 0 && !(set == 1 && eastOrWest) && !(set == 2 && northOrSouth) {
		sum += 200
	}
	return sum, api.OK
}

func TestP3_3Cost(t *testing.T) {
	for slope := range 32 {
		for set := range 64 {
			want, wrong := costOf(slope, set)
			if cost, e := rail.Cost(slope, set); cost != want || e != wrong {
				t.Errorf("slope %d, set %d: %d, %d, want %d, %d", slope, set, cost, e, want, wrong)
			}
		}
	}
}

func TestP3_3CostByHand(t *testing.T) {
	for _, test := range [][4]int{
		{0, 0, 0, 0}, {5, 0, 0, 0}, {31, 0, 0, 0}, {16, 0, 0, 0},
		{0, 1, 300, 0}, {0, 63, 1800, 0}, {0, 48, 600, 0},
		{6, 1, 300, 0}, {9, 1, 300, 0}, {3, 1, 500, 0}, {12, 1, 500, 0},
		{6, 2, 500, 0}, {9, 2, 500, 0}, {3, 2, 300, 0}, {12, 2, 300, 0},
		{6, 3, 800, 0}, {3, 3, 800, 0}, {6, 4, 500, 0}, {9, 5, 800, 0}, {1, 1, 500, 0}, {15, 63, 2000, 0},
		{16, 1, 0, 5}, {23, 2, 0, 5}, {31, 63, 0, 5}, {22, 1, 0, 5},
	} {
		if cost, e := rail.Cost(test[0], test[1]); cost != test[2] || int(e) != test[3] {
			t.Errorf("slope %d, set %d: %d, %d", test[0], test[1], cost, e)
		}
	}
	for _, wrong := range [][2]int{{-1, 0}, {32, 0}, {minInt, 1}, {maxInt, 1}, {0, -1}, {0, 64}, {6, minInt}, {6, maxInt}, {16, 64}, {31, -1}, {38, 1}} {
		if cost, e := rail.Cost(wrong[0], wrong[1]); cost != 0 || e != api.ErrArg {
			t.Errorf("slope %d, set %d: %d, %d", wrong[0], wrong[1], cost, e)
		}
	}
}

func TestP3_4Lay(t *testing.T) {
	for seed, size := range [][2]int{{4, 4}, {5, 9}, {8, 6}} {
		r := scattered(uint64(seed), size[0], size[1])
		kept := copied(r)
		for at := range len(r.Sets) * 6 * 2 {
			tile, piece, wired := at/12, at/2%6, at%2 == 1
			laid, e := rail.Lay(r, tile, piece, wired)
			if r.Sets[tile]>>piece%2 == 1 {
				if e != api.ErrTwice || !isNone(laid) {
					t.Errorf("seed %d, tile %d, piece %d: %v, %d", seed, tile, piece, laid, e)
				}
				continue
			}
			want := copied(r)
			want.Sets[tile] += []int{1, 2, 4, 8, 16, 32}[piece]
			if wired {
				want.Wired[tile] = true
			}
			if e != api.OK || !same(laid, want) || !same(r, kept) {
				t.Errorf("seed %d, tile %d, piece %d, wired %t: %v, %d, want %v", seed, tile, piece, wired, laid, e, want)
			}
			clear(laid.Sets)
			clear(laid.Wired)
			if !same(r, kept) {
				t.Fatalf("the result shares the memory of the argument")
			}
		}
	}
}

func TestP3_4Lift(t *testing.T) {
	for seed, size := range [][2]int{{4, 4}, {5, 9}, {8, 6}} {
		r := scattered(uint64(seed), size[0], size[1])
		kept := copied(r)
		for at := range len(r.Sets) * 6 {
			tile, piece := at/6, at%6
			lifted, e := rail.Lift(r, tile, piece)
			if r.Sets[tile]>>piece%2 == 0 {
				if e != api.ErrNone || !isNone(lifted) {
					t.Errorf("seed %d, tile %d, piece %d: %v, %d", seed, tile, piece, lifted, e)
				}
				continue
			}
			want := copied(r)
			want.Sets[tile] -= []int{1, 2, 4, 8, 16, 32}[piece]
			if want.Sets[tile] == 0 {
				want.Wired[tile] = false
			}
			if e != api.OK || !same(lifted, want) || !same(r, kept) {
				t.Errorf("seed %d, tile %d, piece %d: %v, %d, want %v", seed, tile, piece, lifted, e, want)
			}
			clear(lifted.Sets)
			clear(lifted.Wired)
			if !same(r, kept) {
				t.Fatalf("the result shares the memory of the argument")
			}
		}
	}
}

// One tile, wired by its second piece, stays so until its last piece goes.
func TestP3_4Wires(t *testing.T) {
	r := bare(4, 4)
	steps := []struct {
		lay   bool
		piece int
		wired bool
		set   int
		want  bool
	}{
		{true, 0, false, 1, false},
		{true, 1, true, 3, true},
		{true, 5, false, 35, true},
		{false, 1, false, 33, true},
		{false, 0, false, 32, true},
		{false, 5, false, 0, false},
		{true, 4, false, 16, false},
	}
	for i, step := range steps {
		var e api.Errno
		if step.lay {
			r, e = rail.Lay(r, 6, step.piece, step.wired)
		} else {
			r, e = rail.Lift(r, 6, step.piece)
		}
		if e != api.OK || r.Sets[6] != step.set || r.Wired[6] != step.want || rail.Validate(r) != api.OK {
			t.Fatalf("step %d: %v, %d", i, r, e)
		}
	}
}

func TestP3_4Errors(t *testing.T) {
	r := tracks(map[int]int{0: 1, 19: 1, 7: 62})
	tests := []struct {
		tile, piece int
		lay, lift   api.Errno
	}{
		{0, -1, api.ErrArg, api.ErrArg},
		{0, 6, api.ErrArg, api.ErrArg},
		{-1, minInt, api.ErrArg, api.ErrArg},
		{20, maxInt, api.ErrArg, api.ErrArg},
		{0, 64, api.ErrArg, api.ErrArg},
		{-1, 0, api.ErrNone, api.ErrNone},
		{20, 0, api.ErrNone, api.ErrNone},
		{minInt, 5, api.ErrNone, api.ErrNone},
		{maxInt, 5, api.ErrNone, api.ErrNone},
		{0, 0, api.ErrTwice, api.OK},
		{19, 0, api.ErrTwice, api.OK},
		{0, 1, api.OK, api.ErrNone},
		{7, 0, api.OK, api.ErrNone},
		{7, 5, api.ErrTwice, api.OK},
	}
	for _, test := range tests {
		laid, e := rail.Lay(r, test.tile, test.piece, true)
		if e != test.lay || (e != api.OK) != isNone(laid) {
			t.Errorf("Lay, tile %d, piece %d: %v, %d", test.tile, test.piece, laid, e)
		}
		lifted, e := rail.Lift(r, test.tile, test.piece)
		if e != test.lift || (e != api.OK) != isNone(lifted) {
			t.Errorf("Lift, tile %d, piece %d: %v, %d", test.tile, test.piece, lifted, e)
		}
	}
}
