package road_test

import (
	"math/rand/v2"
	"slices"
	"testing"

	"hinterland/api"
	"hinterland/road"
)

// point is a place on the map in halves of a tile, so that the middle of each
// side has whole numbers; tiles beside each other share one.
type point struct{ x, y int }

// middleOf returns the middle of a tile's side.
func middleOf(w, tile, side int) point {
	x, y := 2*(tile%w)+1, 2*(tile/w)+1
	return []point{{x + 1, y}, {x, y + 1}, {x - 1, y}, {x, y - 1}}[side]
}

// meets is Joined by the map: the tile, or -1, that has an arm which ends
// where the tile's arm towards the side does.
func meets(t api.Streets, tile, side int) int {
	if !slices.Contains(sidesOf(t.Arms[tile]), side) {
		return -1
	}
	for other := range t.Arms {
		for _, arm := range sidesOf(t.Arms[other]) {
			if other != tile && middleOf(t.W, other, arm) == middleOf(t.W, tile, side) {
				return other
			}
		}
	}
	return -1
}

// directions are the sides to which each of the Ways lets a tile be left.
var directions = [][]int{{0, 1, 2, 3}, {0, 1}, {2, 3}}

// nextOf is Next by the map.
func nextOf(t api.Streets, tile, from int) []int {
	var list []int
	for side := range 4 {
		other := meets(t, tile, side)
		if other >= 0 && slices.Contains(directions[t.Ways[tile]], side) && slices.Contains(directions[t.Ways[other]], side) {
			list = append(list, side)
		}
	}
	onward := slices.DeleteFunc(slices.Clone(list), func(side int) bool { return side == from })
	if len(onward) > 0 {
		return onward
	}
	return list
}

func TestP4_3JoinedExample(t *testing.T) {
	s := streets(map[int]int{6: 1, 7: 4})
	for tile := range s.Arms {
		for side := range 4 {
			want := tile == 6 && side == 0 || tile == 7 && side == 2
			if ok, e := road.Joined(s, tile, side); ok != want || e != api.OK {
				t.Errorf("tile %d, side %d: %t, %d", tile, side, ok, e)
			}
		}
	}
	if l, e := road.Next(s, 7, 2); e != api.OK || !slices.Equal(l, []int{2}) {
		t.Errorf("turning round: %v, %d", l, e)
	}
}

// Every tile has every arm: only the border parts them.
func TestP4_3JoinedAtTheBorder(t *testing.T) {
	s := empty(5, 4)
	for tile := range s.Arms {
		s.Arms[tile] = 15
	}
	for tile := range s.Arms {
		x, y := tile%5, tile/5
		for side, want := range []bool{x < 4, y < 3, x > 0, y > 0} {
			if ok, e := road.Joined(s, tile, side); ok != want || e != api.OK {
				t.Errorf("tile %d, side %d: %t, %d", tile, side, ok, e)
			}
		}
	}
}

// An arm that is alone on its border joins nothing; Ways do not matter.
func TestP4_3JoinedByTheMap(t *testing.T) {
	count := map[bool]int{}
	for seed := range uint64(10) {
		s := scattered(seed, 4+int(seed)%4, 4+int(seed)%3)
		kept := copied(s)
		for tile := range s.Arms {
			for side := range 4 {
				want := meets(s, tile, side) >= 0
				if ok, e := road.Joined(s, tile, side); ok != want || e != api.OK {
					t.Errorf("seed %d, tile %d, side %d: %t, %d", seed, tile, side, ok, e)
				}
				count[want]++
			}
		}
		if !same(s, kept) {
			t.Fatalf("seed %d: the streets were changed", seed)
		}
	}
	if count[true] < 100 || count[false] < 100 {
		t.Errorf("what was told: %v", count)
	}
}

func TestP4_3JoinedErrors(t *testing.T) {
	s := streets(map[int]int{6: 1, 7: 4})
	tests := []struct {
		tile, side int
		want       api.Errno
	}{
		{-1, 0, api.ErrNone},
		{20, 0, api.ErrNone},
		{minInt, 2, api.ErrNone},
		{maxInt, 2, api.ErrNone},
		{-1, 4, api.ErrNone},
		{20, -1, api.ErrNone},
		{6, -1, api.ErrArg},
		{6, 4, api.ErrArg},
		{6, minInt, api.ErrArg},
		{19, maxInt, api.ErrArg},
	}
	for _, test := range tests {
		if ok, e := road.Joined(s, test.tile, test.side); ok || e != test.want {
			t.Errorf("tile %d, side %d: %t, %d, want %d", test.tile, test.side, ok, e, test.want)
		}
	}
}

type step struct {
	s          api.Streets
	tile, from int
	want       []int
}

// stepsByHand are entries of tiles with the sides that Next tells.
func stepsByHand() []step {
	crossroad := map[int]int{7: 15, 8: 4, 12: 8, 6: 1, 2: 2}
	full := streets(crossroad)
	lane := func(way int) api.Streets { // from the tile 5 east to the tile 9
		return oneWay(streets(map[int]int{5: 1, 6: 5, 7: 5, 8: 5, 9: 4}), map[int]int{7: way})
	}
	column := func(way int) api.Streets { // from the tile 2 south to the tile 17
		return oneWay(streets(map[int]int{2: 2, 7: 10, 12: 10, 17: 8}), map[int]int{7: way})
	}
	end := func(way int) api.Streets { // a tile behind a one way street
		return oneWay(streets(map[int]int{6: 1, 7: 5, 8: 4}), map[int]int{7: way})
	}
	facing := oneWay(lane(1), map[int]int{8: 2})
	apart := oneWay(lane(2), map[int]int{8: 1})
	return []step{
		{full, 7, -1, []int{0, 1, 2, 3}},
		{full, 7, 0, []int{1, 2, 3}},
		{full, 7, 1, []int{0, 2, 3}},
		{full, 7, 2, []int{0, 1, 3}},
		{full, 7, 3, []int{0, 1, 2}},
		{full, 8, -1, []int{2}},
		{full, 8, 2, []int{2}}, // turns round
		{full, 8, 0, []int{2}},
		{full, 6, 2, []int{0}},
		{full, 0, -1, nil},
		{full, 0, 2, nil},
		{streets(map[int]int{7: 15}), 7, -1, nil},
		{streets(map[int]int{7: 15}), 7, 1, nil},
		{streets(map[int]int{4: 15, 5: 15}), 4, 2, nil}, // follow one another by number alone
		{streets(map[int]int{0: 15, 1: 4}), 0, 3, []int{0}},
		{lane(0), 7, -1, []int{0, 2}},
		{lane(0), 7, 2, []int{0}},
		{lane(1), 7, -1, []int{0}},
		{lane(1), 7, 2, []int{0}},
		{lane(1), 7, 0, []int{0}}, // turns round
		{lane(1), 6, 2, []int{0}},
		{lane(1), 8, 0, []int{0}}, // turns round, as the tile 7 leads the other way
		{lane(1), 8, 2, []int{0}},
		{lane(1), 8, -1, []int{0}},
		{lane(2), 7, -1, []int{2}},
		{lane(2), 7, 0, []int{2}},
		{lane(2), 7, 2, []int{2}},
		{lane(2), 6, -1, []int{2}},
		{lane(2), 6, 2, []int{2}}, // turns round, as the tile 7 may not be entered
		{lane(2), 8, 0, []int{2}},
		{facing, 7, -1, nil},
		{facing, 7, 2, nil}, // may not go back either
		{facing, 8, 0, nil},
		{facing, 6, 2, []int{0}},
		{apart, 7, -1, []int{2}},
		{apart, 8, -1, []int{0}},
		{apart, 7, 0, []int{2}},
		{column(0), 7, 3, []int{1}},
		{column(1), 7, -1, []int{1}},
		{column(1), 7, 1, []int{1}},
		{column(1), 12, 1, []int{1}},
		{column(1), 12, -1, []int{1}},
		{column(2), 7, -1, []int{3}},
		{column(2), 2, -1, nil},
		{column(2), 12, -1, []int{1, 3}},
		{column(2), 12, 1, []int{3}},
		{end(1), 8, 2, nil}, // may not go back either
		{end(1), 8, -1, nil},
		{end(2), 8, 2, []int{2}},
	}
}

func TestP4_3NextByHand(t *testing.T) {
	for i, test := range stepsByHand() {
		l, e := road.Next(test.s, test.tile, test.from)
		if e != api.OK || !slices.Equal(l, test.want) {
			t.Errorf("test %d, tile %d from %d: %v, %d, want %v", i, test.tile, test.from, l, e, test.want)
		}
	}
}

func TestP4_3NextByTheMap(t *testing.T) {
	var count [5]int
	for seed := range uint64(20) {
		s := scattered(seed, 4+int(seed)%4, 4+int(seed)%3)
		kept := copied(s)
		for tile := range s.Arms {
			for from := -1; from < 4; from++ {
				want := nextOf(s, tile, from)
				l, e := road.Next(s, tile, from)
				if e != api.OK || !slices.Equal(l, want) {
					t.Errorf("seed %d, tile %d from %d: %v, %d, want %v", seed, tile, from, l, e, want)
				}
				count[len(want)]++
				clear(l)
			}
		}
		if !same(s, kept) {
			t.Fatalf("seed %d: the streets were changed", seed)
		}
	}
	if slices.Min(count[:]) < 5 {
		t.Errorf("how many sides were told: %v", count)
	}
}

type entry struct {
	tile, from int
	want       api.Errno
}

// wrongEntries are entries of the streets of 5 times 4 tiles, refused by Next.
func wrongEntries() []entry {
	return []entry{
		{-1, 0, api.ErrNone},
		{20, 0, api.ErrNone},
		{minInt, -1, api.ErrNone},
		{maxInt, -1, api.ErrNone},
		{-1, -2, api.ErrNone},
		{20, 4, api.ErrNone},
		{7, -2, api.ErrArg},
		{7, 4, api.ErrArg},
		{0, minInt, api.ErrArg},
		{19, maxInt, api.ErrArg},
	}
}

func TestP4_3NextErrors(t *testing.T) {
	s := oneWay(streets(map[int]int{6: 1, 7: 5, 8: 4}), map[int]int{7: 2})
	for _, test := range wrongEntries() {
		if l, e := road.Next(s, test.tile, test.from); e != test.want || l != nil {
			t.Errorf("tile %d from %d: %v, %d, want %d", test.tile, test.from, l, e, test.want)
		}
	}
}

// partsOf is Parts by the map: of two joined tiles the greater number sinks
// to the less, until none does.
func partsOf(s api.Streets) []int {
	parts := make([]int, len(s.Arms))
	for tile, arms := range s.Arms {
		parts[tile] = tile
		if arms == 0 {
			parts[tile] = -1
		}
	}
	for more := true; more; {
		more = false
		for tile := range parts {
			for side := range 4 {
				other := meets(s, tile, side)
				if other >= 0 && parts[other] < parts[tile] {
					parts[tile], more = parts[other], true
				}
			}
		}
	}
	return parts
}

func TestP4_4PartsByHand(t *testing.T) {
	s := streets(map[int]int{
		0: 15, 1: 15, // joined, with arms to nowhere
		3: 2, 8: 10, 13: 12, 12: 5, 11: 8 + 1, 6: 2, // one street, which bends twice
		9:  5,         // alone
		15: 1, 16: 15, // joined; the tile 16 does not meet the tile 11
		18: 4, 19: 8, // beside each other, not joined
	})
	want := []int{0, 0, -1, 3, -1, -1, 3, -1, 3, 9, -1, 3, 3, 3, -1, 15, 15, -1, 18, 19}
	for _, wayOf := range []map[int]int{nil, {8: 1, 12: 1}, {8: 2, 12: 1, 9: 2}} {
		if l, e := road.Parts(oneWay(copied(s), wayOf)); e != api.OK || !slices.Equal(l, want) {
			t.Errorf("ways %v: %v, %d", wayOf, l, e)
		}
	}
	if l, e := road.Parts(empty(4, 4)); e != api.OK || !slices.Equal(l, slices.Repeat([]int{-1}, 16)) {
		t.Errorf("without streets: %v, %d", l, e)
	}
	full := empty(32, 32)
	for tile := range full.Arms {
		full.Arms[tile] = 15
	}
	if l, e := road.Parts(full); e != api.OK || !slices.Equal(l, make([]int, 1024)) {
		t.Errorf("full: %v, %d", l, e)
	}
}

func TestP4_4PartsByTheMap(t *testing.T) {
	for seed := range uint64(20) {
		s := scattered(seed, 4+int(seed)%5, 4+int(seed)%7)
		kept := copied(s)
		want := partsOf(s)
		l, e := road.Parts(s)
		if e != api.OK || !slices.Equal(l, want) {
			t.Errorf("seed %d: %v, %d, want %v", seed, l, e, want)
		}
		clear(l)
		if !same(s, kept) {
			t.Fatalf("seed %d: the streets were changed", seed)
		}
	}
}

// driveOf is Go by the map.
func driveOf(s api.Streets, tile, from int, turns []int) []int {
	list := []int{tile}
	for _, turn := range turns {
		next := nextOf(s, tile, from)
		if len(next) == 0 {
			return list
		}
		side := next[0]
		if turn > 0 {
			side = next[turn%len(next)]
		}
		tile, from = meets(s, tile, side), []int{2, 3, 0, 1}[side]
		list = append(list, tile)
	}
	return list
}

func TestP4_4GoByHand(t *testing.T) {
	// a crossroad on the tile 7, with a round to the south east of it
	s := streets(map[int]int{2: 2, 6: 1, 7: 15, 8: 2 + 4, 13: 4 + 8, 12: 1 + 8 + 2, 17: 8})
	lane := oneWay(streets(map[int]int{5: 1, 6: 5, 7: 5, 8: 4}), map[int]int{7: 1})
	tests := []struct {
		s          api.Streets
		tile, from int
		turns      []int
		want       []int
	}{
		{s, 7, -1, nil, []int{7}},
		{s, 7, 3, []int{}, []int{7}},
		{s, 0, -1, []int{0, 1}, []int{0}},
		{s, 7, -1, []int{0}, []int{7, 8}},
		{s, 7, -1, []int{1}, []int{7, 12}},
		{s, 7, -1, []int{2}, []int{7, 6}},
		{s, 7, -1, []int{3}, []int{7, 2}},
		{s, 7, -1, []int{4}, []int{7, 8}},
		{s, 7, -1, []int{7}, []int{7, 2}},
		{s, 7, -1, []int{-1}, []int{7, 8}},
		{s, 7, -1, []int{minInt}, []int{7, 8}},
		{s, 7, -1, []int{maxInt}, []int{7, 2}}, // 3 modulo 4
		{s, 7, 0, []int{maxInt}, []int{7, 6}},  // 1 modulo 3
		{s, 7, 2, []int{3}, []int{7, 8}},
		{s, 7, -1, []int{0, 0, 0, 0}, []int{7, 8, 13, 12, 17}},
		{s, 7, -1, []int{0, 9, 9, 1, 1}, []int{7, 8, 13, 12, 7, 6}},
		{s, 7, -1, []int{0, 9, 9, 1, 2}, []int{7, 8, 13, 12, 7, 2}},
		{s, 7, -1, []int{3, 5, 2, 0, 0}, []int{7, 2, 7, 6, 7, 8}},
		{s, 6, 2, []int{0, 1, 0, 0, 0}, []int{6, 7, 12, 13, 8, 7}},
		{s, 0, 0, []int{0}, []int{0}},
		{s, 17, 3, []int{0, 1, 1}, []int{17, 12, 7, 6}},
		{lane, 5, -1, []int{0, 0, 0, 0, 0}, []int{5, 6, 7, 8}}, // no way back
		{lane, 6, 2, []int{0, 3, 2, 1}, []int{6, 7, 8}},
		{lane, 6, 0, []int{0, 0, 0, 0, 0, 0}, []int{6, 5, 6, 7, 8}},
	}
	for i, test := range tests {
		kept := slices.Clone(test.turns)
		l, e := road.Go(test.s, test.tile, test.from, test.turns)
		if e != api.OK || !slices.Equal(l, test.want) {
			t.Errorf("test %d: %v, %d, want %v", i, l, e, test.want)
		}
		if !slices.Equal(kept, test.turns) {
			t.Errorf("test %d: the turns were changed", i)
		}
	}
}

func TestP4_4GoByTheMap(t *testing.T) {
	chance := rand.New(rand.NewPCG(4, 4))
	most := 0
	for seed := range uint64(60) {
		s := scattered(seed, 4+int(seed)%5, 4+int(seed)%7)
		kept := copied(s)
		for range 10 {
			tile, from := chance.IntN(len(s.Arms)), chance.IntN(5)-1
			turns := make([]int, 60)
			for i := range turns {
				turns[i] = chance.IntN(14) - 2
			}
			l, e := road.Go(s, tile, from, turns)
			if want := driveOf(s, tile, from, turns); e != api.OK || !slices.Equal(l, want) {
				t.Errorf("seed %d, tile %d from %d: %v, %d, want %v", seed, tile, from, l, e, want)
			}
			most = max(most, len(l))
		}
		if !same(s, kept) {
			t.Fatalf("seed %d: the streets were changed", seed)
		}
	}
	if most < 61 {
		t.Errorf("at most %d tiles were driven over", most)
	}
}

func TestP4_4GoOfManyTurns(t *testing.T) {
	s := streets(map[int]int{6: 1, 7: 4})
	for _, n := range []int{999, 1000} {
		l, e := road.Go(s, 6, -1, make([]int, n))
		if e != api.OK || len(l) != n+1 || l[n] != 6+n%2 {
			t.Errorf("%d turns: %d tiles, %d", n, len(l), e)
		}
	}
	for _, tile := range []int{6, 0} {
		if l, e := road.Go(s, tile, -1, make([]int, 1001)); e != api.ErrLarge || l != nil {
			t.Errorf("1001 turns from %d: %d tiles, %d", tile, len(l), e)
		}
	}
}

func TestP4_4GoErrors(t *testing.T) {
	s := streets(map[int]int{6: 1, 7: 5, 8: 4})
	for _, test := range wrongEntries() {
		for _, turns := range [][]int{nil, {0}, {-1, maxInt}, make([]int, 1001)} {
			if l, e := road.Go(s, test.tile, test.from, turns); e != test.want || l != nil {
				t.Errorf("tile %d from %d: %v, %d, want %d", test.tile, test.from, l, e, test.want)
			}
		}
	}
}
