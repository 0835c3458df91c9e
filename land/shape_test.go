package land_test

import (
	"slices"
	"testing"

	"hinterland/api"
	"hinterland/land"
	"hinterland/roll"
)

// shifted is P2.5 word for word, without held tiles; it returns the cost too.
func shifted(l api.Land, x, y int, up bool) (api.Land, []api.Corner, int) {
	next := api.Land{W: l.W, H: l.H, Corners: slices.Clone(l.Corners)}
	var list []api.Corner
	cost := 0
	for v := range l.H + 1 {
		for u := range l.W + 1 {
			steps := max(u-x, x-u) + max(v-y, y-v)
			old := at(l, u, v)
			z := max(old, at(l, x, y)+1-steps)
			if !up {
				z = min(old, at(l, x, y)-1+steps)
			}
			if z != old {
				next.Corners[v*(l.W+1)+u] = z
				list = append(list, api.Corner{X: u, Y: v, Z: z})
				cost += max(z-old, old-z) * 250
			}
		}
	}
	return next, list, cost
}

// The example of the chapter, and the same downward.
func TestP2_5ShiftOfFlatLand(t *testing.T) {
	for _, up := range []bool{true, false} {
		z := 2
		if up {
			z = 4
		}
		l, list, cost, e := land.Shift(flat(6, 5, 3), 2, 3, up, nil)
		if e != api.OK || cost != 250 || !slices.Equal(list, []api.Corner{{X: 2, Y: 3, Z: z}}) {
			t.Errorf("once, up %t: %v, %d, %d", up, list, cost, e)
		}
		_, list, cost, e = land.Shift(l, 2, 3, up, nil)
		five := []api.Corner{{X: 2, Y: 2, Z: z}, {X: 1, Y: 3, Z: z}, {X: 2, Y: 3, Z: 2*z - 3}, {X: 3, Y: 3, Z: z}, {X: 2, Y: 4, Z: z}}
		if e != api.OK || cost != 5*250 || !slices.Equal(list, five) {
			t.Errorf("twice, up %t: %v, %d, %d", up, list, cost, e)
		}
	}
}

func TestP2_5ShiftOfEachCorner(t *testing.T) {
	lands := []api.Land{
		grown(t, 1, 6, 5, 4), grown(t, 2, 5, 8, 3), grown(t, 3, 9, 4, 1), flat(4, 4, 7), flat(5, 4, 0), flat(4, 5, 15),
		picture("abcdefghi", "bcdefghij", "cdefghijk", "defghijkl", "efghijklm"),
		picture("mlkjihgfe", "lkjihgfed", "kjihgfedc", "jihgfedcb", "ihgfedcba"),
	}
	most := 0
	for i, l := range lands {
		kept := slices.Clone(l.Corners)
		for c := range (l.W + 1) * (l.H + 1) * 2 {
			x, y, up := c/2%(l.W+1), c/2/(l.W+1), c%2 == 0
			next, list, cost, e := land.Shift(l, x, y, up, nil)
			if z := at(l, x, y); up && z == 15 || !up && z == 0 {
				if e != api.ErrEdge || !isNone(next) || list != nil || cost != 0 {
					t.Errorf("land %d, corner (%d, %d), up %t: %d", i, x, y, up, e)
				}
				continue
			}
			want, changed, paid := shifted(l, x, y, up)
			if e != api.OK || !same(next, want) || !slices.Equal(list, changed) || cost != paid {
				t.Errorf("land %d, corner (%d, %d), up %t: %v, %d, %d, want %v", i, x, y, up, list, cost, e, changed)
			}
			if land.Validate(next) != api.OK || !slices.Equal(l.Corners, kept) {
				t.Errorf("land %d, corner (%d, %d), up %t: a slope, or a changed argument", i, x, y, up)
			}
			most = max(most, len(list))
			clear(next.Corners)
		}
	}
	if most < 12 {
		t.Errorf("at most %d corners changed", most)
	}
}

// S14: of the lands that have the corner at its new height and no corner
// lower than before, the result is the least: lowering any changed corner but
// that one makes it none. The same downward.
func TestS14ShiftChangesNoMore(t *testing.T) {
	l := grown(t, 4, 8, 7, 4)
	for c := range len(l.Corners) * 2 {
		x, y, up := c/2%(l.W+1), c/2/(l.W+1), c%2 == 0
		next, list, _, e := land.Shift(l, x, y, up, nil)
		if e != api.OK {
			continue
		}
		for _, corner := range list {
			if corner.X == x && corner.Y == y {
				continue
			}
			place := corner.Y*(l.W+1) + corner.X
			less := slices.Clone(next.Corners)
			less[place] = l.Corners[place]
			if land.Validate(api.Land{W: l.W, H: l.H, Corners: less}) == api.OK {
				t.Errorf("corner (%d, %d), up %t: %v needed not change", x, y, up, corner)
			}
		}
	}
}

func TestP2_5ShiftHeld(t *testing.T) {
	flatland := flat(5, 4, 3)
	once, _, _, _ := land.Shift(flatland, 2, 2, true, nil)
	tests := []struct {
		l    api.Land
		held []int
		want api.Errno
	}{
		{flatland, []int{6}, api.ErrTaken},
		{flatland, []int{7}, api.ErrTaken},
		{flatland, []int{12}, api.ErrTaken},
		{flatland, []int{11}, api.ErrTaken},
		{flatland, []int{0, 1, 2, 3, 4, 5, 8, 9, 10, 13, 14, 15, 16, 17, 18, 19}, api.OK},
		{flatland, []int{-1, 20, minInt, maxInt, 7 + 20, 7 - 20}, api.OK},
		{flatland, []int{-1, 20, 0, 11}, api.ErrTaken},
		{once, []int{0}, api.OK},
		{once, []int{1}, api.ErrTaken}, // it has the corner (2, 1), which must follow
		{once, []int{3}, api.OK},
		{once, []int{5}, api.ErrTaken},
		{once, []int{8}, api.ErrTaken},
		{once, []int{9}, api.OK},
		{once, []int{16}, api.ErrTaken},
		{once, []int{15}, api.OK},
		{once, []int{18}, api.OK},
	}
	for i, test := range tests {
		l, list, cost, e := land.Shift(test.l, 2, 2, true, test.held)
		if e != test.want {
			t.Errorf("test %d: %d", i, e)
		}
		if e != api.OK && (!isNone(l) || list != nil || cost != 0) {
			t.Errorf("test %d: a result behind an error is not zero", i)
		}
	}
}

// Each tile holds the changed corners that are its own, and no other.
func TestP2_5ShiftHeldByEachTile(t *testing.T) {
	l := grown(t, 6, 7, 6, 4)
	s := roll.New(6, "held")
	for range 60 {
		c, next := roll.Below(s, len(l.Corners))
		s = next
		x, y := c%(l.W+1), c/(l.W+1)
		for _, up := range []bool{true, false} {
			after, _, _, e := land.Shift(l, x, y, up, nil)
			if e != api.OK {
				continue
			}
			for tile := range l.W * l.H {
				u, v := tile%l.W, tile/l.W
				taken := !slices.Equal(fourOf(l, u, v), fourOf(after, u, v))
				_, _, _, e := land.Shift(l, x, y, up, []int{tile})
				if taken != (e == api.ErrTaken) || !taken && e != api.OK {
					t.Errorf("corner (%d, %d), up %t, held %d: %d", x, y, up, tile, e)
				}
			}
		}
	}
}

func TestP2_5ShiftErrors(t *testing.T) {
	all := []int{0, 1, 2, 3, 4, 5, 6, 7, 8, 9, 10, 11, 12, 13, 14, 15, 16, 17, 18, 19}
	tests := []struct {
		height, x, y int
		up           bool
		want         api.Errno
	}{
		{3, -1, 0, true, api.ErrNone},
		{3, 6, 0, true, api.ErrNone},
		{3, 0, -1, false, api.ErrNone},
		{3, 0, 5, false, api.ErrNone},
		{15, minInt, 0, true, api.ErrNone},
		{15, 0, maxInt, true, api.ErrNone},
		{0, maxInt, minInt, false, api.ErrNone},
		{15, 5, 4, true, api.ErrEdge},
		{0, 5, 4, false, api.ErrEdge},
		{15, 5, 4, false, api.ErrTaken},
		{0, 0, 0, true, api.ErrTaken},
	}
	for _, test := range tests {
		l, list, cost, e := land.Shift(flat(5, 4, test.height), test.x, test.y, test.up, all)
		if e != test.want || !isNone(l) || list != nil || cost != 0 {
			t.Errorf("%v: %v, %v, %d, %d", test, l, list, cost, e)
		}
	}
	if _, _, cost, e := land.Shift(flat(5, 4, 15), 5, 4, false, nil); cost != 250 || e != api.OK {
		t.Errorf("the last corner: %d, %d", cost, e)
	}
}

// leveled is P2.6 word for word, by calls of Shift.
func leveled(l api.Land, tiles []int, height int, held []int) (api.Land, int, api.Errno) {
	sum := 0
	for _, tile := range tiles {
		x, y := tile%l.W, tile/l.W
		for _, c := range [][2]int{{x, y}, {x + 1, y}, {x + 1, y + 1}, {x, y + 1}} {
			for at(l, c[0], c[1]) != height {
				next, _, cost, e := land.Shift(l, c[0], c[1], at(l, c[0], c[1]) < height, held)
				if e != api.OK {
					return api.Land{}, 0, e
				}
				l, sum = next, sum+cost
			}
		}
	}
	return l, sum, api.OK
}

func TestP2_6Level(t *testing.T) {
	s := roll.New(6, "level")
	draw := func(n int) int {
		k, next := roll.Below(s, n)
		s = next
		return k
	}
	errors := 0
	for seed := range uint64(120) {
		l := grown(t, seed, 4+draw(5), 4+draw(5), draw(5))
		kept := slices.Clone(l.Corners)
		var tiles, held []int
		for range draw(6) {
			tiles = append(tiles, draw(l.W*l.H))
		}
		for range draw(4) {
			held = append(held, draw(2*l.W*l.H)-l.W)
		}
		height := draw(16)
		want, paid, wrong := leveled(l, tiles, height, held)
		next, cost, e := land.Level(l, tiles, height, held)
		if !same(next, want) || cost != paid || e != wrong {
			t.Errorf("seed %d: %v, %d, %d, want %v, %d, %d", seed, next, cost, e, want, paid, wrong)
		}
		if !slices.Equal(l.Corners, kept) {
			t.Errorf("seed %d: the land was changed", seed)
		}
		if e == api.ErrTaken {
			errors++
		}
	}
	if errors < 20 || errors > 100 {
		t.Errorf("%d of 120 were taken", errors)
	}
}

func TestP2_6LevelByHand(t *testing.T) {
	l, cost, e := land.Level(flat(5, 5, 3), []int{12}, 4, nil)
	want := picture("dddddd", "dddddd", "ddeedd", "ddeedd", "dddddd", "dddddd")
	if e != api.OK || !same(l, want) || cost != 4*250 {
		t.Errorf("one up: %v, %d, %d", l, cost, e)
	}
	if l, cost, e := land.Level(want, []int{12}, 4, []int{6, 12, 18}); e != api.OK || !same(l, want) || cost != 0 {
		t.Errorf("what is level: %v, %d, %d", l, cost, e)
	}
	if l, cost, e := land.Level(want, nil, 9, []int{12}); e != api.OK || !same(l, want) || cost != 0 {
		t.Errorf("no tiles: %v, %d, %d", l, cost, e)
	}
	// The north-west corner goes first and draws its neighbours along.
	l, cost, e = land.Level(flat(4, 4, 3), []int{0}, 5, nil)
	want = picture("ffedd", "ffedd", "eeddd", "ddddd", "ddddd")
	if e != api.OK || !same(l, want) || cost != (4*2+4)*250 {
		t.Errorf("two up: %v, %d, %d", l, cost, e)
	}
}

// A land that is returned shares no memory with the one that was given, even
// if nothing was to do.
func TestP2_6LevelIsNewMemory(t *testing.T) {
	l := flat(4, 4, 3)
	next, _, _ := land.Level(l, nil, 3, nil)
	next.Corners[0] = 9
	if l.Corners[0] != 3 {
		t.Error("the result shares the memory of the argument")
	}
}

// A later tile moves a corner of an earlier one away again, and it stays so.
func TestP2_6LevelMovesAway(t *testing.T) {
	slope := picture("hhhhh", "ggggg", "fffff", "eeeee", "ddddd")
	l, cost, e := land.Level(slope, []int{0, 8}, 7, nil)
	want, paid, _ := leveled(slope, []int{0, 8}, 7, nil)
	if e != api.OK || !same(l, want) || cost != paid {
		t.Errorf("%v, %d, %d, want %v, %d", l, cost, e, want, paid)
	}
	far := []int{0, 1}
	l, _, e = land.Level(flat(4, 4, 3), append(far, far...), 15, nil)
	if e != api.OK || !slices.Equal(fourOf(l, 0, 0), []int{15, 15, 15, 15}) || !slices.Equal(fourOf(l, 1, 0), []int{15, 15, 15, 15}) {
		t.Errorf("%v, %d", l, e)
	}
}

func TestP2_6LevelErrors(t *testing.T) {
	long := make([]int, api.MaxList+1)
	wrong := slices.Repeat([]int{-1}, api.MaxList+1)
	tests := []struct {
		tiles  []int
		height int
		held   []int
		want   api.Errno
	}{
		{[]int{0}, -1, nil, api.ErrArg},
		{[]int{0}, 16, nil, api.ErrArg},
		{[]int{0}, minInt, nil, api.ErrArg},
		{wrong, maxInt, nil, api.ErrArg},
		{long, 3, nil, api.ErrArg},
		{wrong, 3, nil, api.ErrArg},
		{wrong[1:], 3, nil, api.ErrNone},
		{[]int{20}, 3, nil, api.ErrNone},
		{[]int{minInt}, 3, nil, api.ErrNone},
		{[]int{maxInt}, 3, nil, api.ErrNone},
		{[]int{0, 1, -1}, 4, []int{0}, api.ErrNone}, // asked of all tiles ahead of the first Shift
		{[]int{0}, 4, []int{0}, api.ErrTaken},
		{[]int{13, 0}, 4, []int{0}, api.ErrTaken}, // what was done for the tile 13 is not returned
		{long[1:], 3, []int{0}, api.OK},
		{long[1:], 4, nil, api.OK},
	}
	for i, test := range tests {
		l, cost, e := land.Level(flat(5, 4, 3), test.tiles, test.height, test.held)
		if e != test.want {
			t.Errorf("test %d: %d", i, e)
		}
		if e != api.OK && (!isNone(l) || cost != 0) {
			t.Errorf("test %d: a result behind an error is not zero", i)
		}
	}
}
