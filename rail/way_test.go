package rail_test

import (
	"math/rand/v2"
	"slices"
	"strings"
	"testing"

	"hinterland/api"
	"hinterland/rail"
)

// point is a place on the map in halves of a tile, so that the middle of each
// side has whole numbers; tiles beside each other share one.
type point struct{ x, y int }

// middleOf returns the middle of a tile's side.
func middleOf(w, tile, side int) point {
	x, y := 2*(tile%w)+1, 2*(tile/w)+1
	return []point{{x + 1, y}, {x, y + 1}, {x - 1, y}, {x, y - 1}}[side]
}

// spotsOf are all spots of the rails, ascending, in the words of the chapter.
func spotsOf(r api.Rails) []api.Spot {
	var list []api.Spot
	for tile, set := range r.Sets {
		for piece := range 6 {
			for side := range 4 {
				if set>>piece%2 == 1 && slices.Contains(sidesOf(piece), side) {
					list = append(list, api.Spot{Tile: tile, Piece: piece, To: side})
				}
			}
		}
	}
	return list
}

func sidesOf(piece int) []int {
	var list []int
	for _, name := range strings.Fields(joins[piece]) {
		list = append(list, numberOf[name])
	}
	return list
}

// otherOf returns the end of a spot's piece through which it is entered.
func otherOf(s api.Spot) int {
	two := sidesOf(s.Piece)
	return two[0] + two[1] - s.To
}

// nextOf is Next by the map: of all spots of another tile those that are
// entered where the spot is left.
func nextOf(r api.Rails, s api.Spot) []api.Spot {
	var list []api.Spot
	for _, n := range spotsOf(r) {
		if n.Tile != s.Tile && middleOf(r.W, n.Tile, otherOf(n)) == middleOf(r.W, s.Tile, s.To) {
			list = append(list, n)
		}
	}
	return list
}

// reachOf is Reach by the map: spots are added until none is to be added.
func reachOf(r api.Rails, from []api.Spot, wired bool) []api.Spot {
	in := map[api.Spot]bool{}
	for _, s := range from {
		in[s] = !wired || r.Wired[s.Tile]
	}
	all := spotsOf(r)
	for more := true; more; {
		more = false
		for _, s := range all {
			for _, n := range all {
				if !in[s] || in[n] || n.Tile == s.Tile || wired && !r.Wired[n.Tile] {
					continue
				}
				if middleOf(r.W, n.Tile, otherOf(n)) == middleOf(r.W, s.Tile, s.To) {
					in[n], more = true, true
				}
			}
		}
	}
	return slices.DeleteFunc(all, func(s api.Spot) bool { return !in[s] })
}

// ring are rails of 5 times 4 tiles with a round of four curves and, from its
// tile 6, a branch to the west.
func ring() api.Rails {
	return tracks(map[int]int{5: 1, 6: 1 + 4, 7: 8, 11: 32, 12: 16})
}

func TestP3_5NextExample(t *testing.T) {
	r := tracks(map[int]int{6: 1 + 4, 7: 1})
	l, e := rail.Next(r, api.Spot{Tile: 7, Piece: 0, To: 2})
	want := []api.Spot{{Tile: 6, Piece: 0, To: 2}, {Tile: 6, Piece: 2, To: 1}}
	if e != api.OK || !slices.Equal(l, want) {
		t.Errorf("%v, %d", l, e)
	}
}

// A full tile amid full tiles, left through each side; at the border none.
func TestP3_5NextByHand(t *testing.T) {
	r := tracks(nil)
	for tile := range r.Sets {
		r.Sets[tile] = 63
	}
	want := map[int][]api.Spot{
		0: {{Tile: 8, Piece: 0, To: 0}, {Tile: 8, Piece: 3, To: 1}, {Tile: 8, Piece: 4, To: 3}},
		1: {{Tile: 12, Piece: 1, To: 1}, {Tile: 12, Piece: 4, To: 2}, {Tile: 12, Piece: 5, To: 0}},
		2: {{Tile: 6, Piece: 0, To: 2}, {Tile: 6, Piece: 2, To: 1}, {Tile: 6, Piece: 5, To: 3}},
		3: {{Tile: 2, Piece: 1, To: 3}, {Tile: 2, Piece: 2, To: 0}, {Tile: 2, Piece: 3, To: 2}},
	}
	for piece := range 6 {
		for _, side := range sidesOf(piece) {
			if l, e := rail.Next(r, api.Spot{Tile: 7, Piece: piece, To: side}); e != api.OK || !slices.Equal(l, want[side]) {
				t.Errorf("piece %d to %d: %v, %d", piece, side, l, e)
			}
		}
	}
	for _, s := range []api.Spot{{Tile: 4, To: 0}, {Tile: 17, Piece: 1, To: 1}, {Tile: 10, To: 2}, {Tile: 3, Piece: 1, To: 3}, {Tile: 14, Piece: 5, To: 0}, {Tile: 15, Piece: 3, To: 2}} {
		if l, e := rail.Next(r, s); e != api.OK || len(l) > 0 {
			t.Errorf("border %v: %v, %d", s, l, e)
		}
	}
}

func TestP3_5NextOfEachSpot(t *testing.T) {
	for seed, size := range [][2]int{{4, 4}, {5, 7}, {9, 4}, {6, 6}} {
		r := scattered(uint64(seed), size[0], size[1])
		kept := copied(r)
		for _, s := range spotsOf(r) {
			l, e := rail.Next(r, s)
			if want := nextOf(r, s); e != api.OK || !slices.Equal(l, want) {
				t.Errorf("seed %d, %v: %v, %d, want %v", seed, s, l, e, want)
			}
		}
		if !same(r, kept) {
			t.Errorf("seed %d: the rails were changed", seed)
		}
	}
}

func TestP3_5NextErrors(t *testing.T) {
	r := ring()
	for _, test := range wrongSpots() {
		if l, e := rail.Next(r, test.s); e != test.want || l != nil {
			t.Errorf("%v: %v, %d", test.s, l, e)
		}
	}
}

type wrongSpot struct {
	s    api.Spot
	want api.Errno
}

// wrongSpots are spots of ring with what Next says of them.
func wrongSpots() []wrongSpot {
	return []wrongSpot{
		{api.Spot{Tile: 6, Piece: -1}, api.ErrArg},
		{api.Spot{Tile: 6, Piece: 6}, api.ErrArg},
		{api.Spot{Tile: 6, Piece: minInt, To: minInt}, api.ErrArg},
		{api.Spot{Tile: 6, Piece: maxInt, To: maxInt}, api.ErrArg},
		{api.Spot{Tile: 6, Piece: 0, To: 1}, api.ErrArg},
		{api.Spot{Tile: 6, Piece: 0, To: 4}, api.ErrArg},
		{api.Spot{Tile: 6, Piece: 2, To: -2}, api.ErrArg},
		{api.Spot{Tile: -1, Piece: 0, To: 3}, api.ErrArg},
		{api.Spot{Tile: 20, Piece: 7, To: 0}, api.ErrArg},
		{api.Spot{Tile: 6, Piece: 3, To: 0}, api.ErrArg}, // does not lie either
		{api.Spot{Tile: -1, Piece: 0, To: 2}, api.ErrNone},
		{api.Spot{Tile: 20, Piece: 0, To: 2}, api.ErrNone},
		{api.Spot{Tile: minInt, Piece: 0, To: 2}, api.ErrNone},
		{api.Spot{Tile: maxInt, Piece: 2, To: 1}, api.ErrNone},
		{api.Spot{Tile: 6, Piece: 1, To: 1}, api.ErrNone},
		{api.Spot{Tile: 0, Piece: 0, To: 0}, api.ErrNone},
	}
}

func TestP3_5ReachByHand(t *testing.T) {
	r := ring()
	for _, tile := range []int{6, 7, 12} {
		r.Wired[tile] = true
	}
	start := api.Spot{Tile: 7, Piece: 3, To: 2}
	all := []api.Spot{{Tile: 5, Piece: 0, To: 2}, {Tile: 6, Piece: 0, To: 2}, {Tile: 6, Piece: 2, To: 1}, start, {Tile: 11, Piece: 5, To: 0}, {Tile: 12, Piece: 4, To: 3}}
	tests := []struct {
		from  []api.Spot
		wired bool
		want  []api.Spot
	}{
		{nil, false, nil},
		{nil, true, nil},
		{[]api.Spot{start}, false, all},
		{[]api.Spot{start, start}, false, all},
		{[]api.Spot{start}, true, []api.Spot{all[1], all[2], start}},
		{[]api.Spot{{Tile: 12, Piece: 4, To: 3}, start}, true, append(slices.Clone(all[1:4]), all[5])},
		{[]api.Spot{{Tile: 11, Piece: 5, To: 0}}, true, nil},
		{[]api.Spot{{Tile: 11, Piece: 5, To: 0}, {Tile: 6, Piece: 0, To: 2}}, true, all[1:2]},
		{[]api.Spot{{Tile: 5, Piece: 0, To: 2}}, false, all[:1]},
		{[]api.Spot{{Tile: 5, Piece: 0, To: 2}, {Tile: 5, Piece: 0, To: 0}}, false, []api.Spot{{Tile: 5, Piece: 0, To: 0}, {Tile: 5, Piece: 0, To: 2}, {Tile: 6, Piece: 0, To: 0}, {Tile: 7, Piece: 3, To: 1}, {Tile: 12, Piece: 4, To: 2}, {Tile: 11, Piece: 5, To: 3}, {Tile: 6, Piece: 2, To: 0}}},
	}
	for i, test := range tests {
		slices.SortFunc(test.want, ascending)
		l, e := rail.Reach(r, test.from, test.wired)
		if e != api.OK || !slices.Equal(l, test.want) {
			t.Errorf("test %d: %v, %d, want %v", i, l, e, test.want)
		}
	}
}

func ascending(a, b api.Spot) int {
	return slices.Compare([]int{a.Tile, a.Piece, a.To}, []int{b.Tile, b.Piece, b.To})
}

func TestP3_5ReachByTheMap(t *testing.T) {
	chance := rand.New(rand.NewPCG(5, 5))
	most := 0
	for seed := range uint64(12) {
		r := scattered(seed, 4+int(seed)%4, 4+int(seed)/4)
		kept := copied(r)
		all := spotsOf(r)
		for range 4 {
			var from []api.Spot
			for range chance.IntN(4) {
				from = append(from, all[chance.IntN(len(all))])
			}
			given := slices.Clone(from)
			for _, wired := range []bool{false, true} {
				l, e := rail.Reach(r, from, wired)
				if want := reachOf(r, from, wired); e != api.OK || !slices.Equal(l, want) {
					t.Errorf("seed %d, from %v, wired %t: %v, %d, want %v", seed, from, wired, l, e, want)
				}
				most = max(most, len(l))
				clear(l)
			}
			if !slices.Equal(from, given) || !same(r, kept) {
				t.Fatalf("seed %d: an argument was changed", seed)
			}
		}
	}
	if most < 20 {
		t.Errorf("at most %d spots were reached", most)
	}
}

// The first spot that is wrong decides, whatever comes behind it, and even if
// no wired one is asked for.
func TestP3_5ReachErrors(t *testing.T) {
	r := ring()
	good := api.Spot{Tile: 7, Piece: 3, To: 2}
	arg, none := api.Spot{Tile: 7, Piece: 3, To: 0}, api.Spot{Tile: 7, Piece: 2, To: 0}
	tests := []struct {
		from []api.Spot
		want api.Errno
	}{
		{[]api.Spot{good, arg}, api.ErrArg},
		{[]api.Spot{good, none}, api.ErrNone},
		{[]api.Spot{none, arg}, api.ErrNone},
		{[]api.Spot{arg, none}, api.ErrArg},
		{[]api.Spot{good, none, good, arg}, api.ErrNone},
	}
	for _, s := range wrongSpots() {
		tests = append(tests, struct {
			from []api.Spot
			want api.Errno
		}{[]api.Spot{good, s.s, none, arg}, s.want})
	}
	for _, test := range tests {
		for _, wired := range []bool{false, true} {
			if l, e := rail.Reach(r, test.from, wired); e != test.want || l != nil {
				t.Errorf("from %v: %v, %d, want %d", test.from, l, e, test.want)
			}
		}
	}
}

func TestP3_5Loose(t *testing.T) {
	tests := []struct {
		r    api.Rails
		want []api.Spot
	}{
		{tracks(nil), nil},
		{ring(), []api.Spot{{Tile: 5, Piece: 0, To: 2}}},
		{tracks(map[int]int{6: 4, 7: 8, 11: 32, 12: 16}), nil},
		{tracks(map[int]int{7: 1}), []api.Spot{{Tile: 7, Piece: 0, To: 0}, {Tile: 7, Piece: 0, To: 2}}},
		{tracks(map[int]int{7: 32}), []api.Spot{{Tile: 7, Piece: 5, To: 0}, {Tile: 7, Piece: 5, To: 3}}},
		// tiles beside each other, at the border, whose pieces do not meet
		{tracks(map[int]int{0: 2, 1: 1}), []api.Spot{{Tile: 0, Piece: 1, To: 1}, {Tile: 0, Piece: 1, To: 3}, {Tile: 1, Piece: 0, To: 0}, {Tile: 1, Piece: 0, To: 2}}},
		// tiles that follow one another by number alone
		{tracks(map[int]int{4: 1, 5: 1}), []api.Spot{{Tile: 4, Piece: 0, To: 0}, {Tile: 4, Piece: 0, To: 2}, {Tile: 5, Piece: 0, To: 0}, {Tile: 5, Piece: 0, To: 2}}},
	}
	for i, test := range tests {
		if l, e := rail.Loose(test.r); e != api.OK || !slices.Equal(l, test.want) {
			t.Errorf("test %d: %v, %d, want %v", i, l, e, test.want)
		}
	}
	for seed := range uint64(12) {
		r := scattered(seed, 4+int(seed)%5, 9-int(seed)/3)
		want := slices.DeleteFunc(spotsOf(r), func(s api.Spot) bool { return len(nextOf(r, s)) > 0 })
		if l, e := rail.Loose(r); e != api.OK || !slices.Equal(l, want) {
			t.Errorf("seed %d: %v, %d, want %v", seed, l, e, want)
		}
	}
}

func TestP3_6Way(t *testing.T) {
	r := ring()
	round := []api.Spot{{Tile: 6, Piece: 2, To: 1}, {Tile: 11, Piece: 5, To: 0}, {Tile: 12, Piece: 4, To: 3}, {Tile: 7, Piece: 3, To: 2}}
	out := append(slices.Clone(round[1:]), api.Spot{Tile: 6, Piece: 0, To: 2}, api.Spot{Tile: 5, Piece: 0, To: 2})
	back := api.Spot{Tile: 11, Piece: 5, To: 3}
	tests := []struct {
		l    []api.Spot
		want api.Errno
	}{
		{nil, api.OK},
		{[]api.Spot{}, api.OK},
		{round[:1], api.OK},
		{round, api.OK},
		{out, api.OK},
		{append(slices.Clone(round[:1]), out...), api.OK}, // two pieces of the tile 6
		{append(slices.Clone(round), round[0]), api.ErrTwice},
		{[]api.Spot{round[0], round[2]}, api.ErrFit},
		{[]api.Spot{round[0], round[3]}, api.ErrFit},
		{[]api.Spot{round[1], round[0]}, api.ErrFit},
		{[]api.Spot{round[0], round[0]}, api.ErrFit},
		{[]api.Spot{round[1], back}, api.ErrFit}, // turning round
		{[]api.Spot{round[0], back}, api.ErrFit}, // the right piece the wrong way
		{append(slices.Clone(round), round[0], round[2]), api.ErrFit},
		{[]api.Spot{round[0], round[0], round[1]}, api.ErrFit},
	}
	for i, test := range tests {
		given := slices.Clone(test.l)
		if e := rail.Way(r, test.l); e != test.want || !slices.Equal(given, test.l) {
			t.Errorf("test %d: %d, want %d", i, e, test.want)
		}
	}
}

// A way that comes back over one of its pieces in the other direction.
func TestP3_6WayTwiceTheOtherWay(t *testing.T) {
	r := tracks(map[int]int{10: 1, 11: 1 + 32, 6: 4 + 1, 7: 8 + 2, 12: 16})
	loop := []api.Spot{{Tile: 10, Piece: 0, To: 0}, {Tile: 11, Piece: 0, To: 0}, {Tile: 12, Piece: 4, To: 3}, {Tile: 7, Piece: 3, To: 2}, {Tile: 6, Piece: 2, To: 1}}
	if e := rail.Way(r, loop); e != api.OK {
		t.Errorf("the loop: %d", e)
	}
	r.Sets[11] |= 16
	if e := rail.Way(r, append(slices.Clone(loop), api.Spot{Tile: 11, Piece: 4, To: 2})); e != api.OK {
		t.Errorf("on another piece: %d", e)
	}
	if e := rail.Way(r, append(slices.Clone(loop), api.Spot{Tile: 11, Piece: 4, To: 2}, api.Spot{Tile: 10, Piece: 0, To: 2})); e != api.ErrTwice {
		t.Errorf("on the first piece: %d", e)
	}
}

// Walks by chance over the rails: what they pass twice, Way tells.
func TestP3_6WayOfWalks(t *testing.T) {
	chance := rand.New(rand.NewPCG(6, 6))
	count := map[api.Errno]int{}
	for seed := range uint64(40) {
		r := bare(4+int(seed)%3, 4)
		for tile := range r.Sets {
			r.Sets[tile] = chance.IntN(64) | chance.IntN(64) | chance.IntN(64)
		}
		all := spotsOf(r)
		walk := all[chance.IntN(len(all)):][:1:1]
		want := api.OK
		for range 12 {
			next := nextOf(r, walk[len(walk)-1])
			next = slices.DeleteFunc(next, func(s api.Spot) bool { return len(nextOf(r, s)) == 0 })
			if len(next) == 0 {
				break
			}
			n := next[chance.IntN(len(next))]
			if slices.ContainsFunc(walk, func(s api.Spot) bool { return s.Tile == n.Tile && s.Piece == n.Piece }) {
				want = api.ErrTwice
			}
			walk = append(walk, n)
		}
		if e := rail.Way(r, walk); e != want {
			t.Errorf("seed %d, %v: %d, want %d", seed, walk, e, want)
		}
		count[want]++
		at := chance.IntN(len(all))
		if last := walk[len(walk)-1]; !slices.Contains(nextOf(r, last), all[at]) {
			if e := rail.Way(r, append(walk, all[at])); e != api.ErrFit {
				t.Errorf("seed %d, %v behind %v: %d", seed, all[at], walk, e)
			}
			count[api.ErrFit]++
		}
	}
	if count[api.OK] < 5 || count[api.ErrTwice] < 5 || count[api.ErrFit] < 20 {
		t.Errorf("how the walks ended: %v", count)
	}
}

// Next's errors are asked of all spots ahead of ErrFit, one by one.
func TestP3_6WayErrors(t *testing.T) {
	r := ring()
	good, far := api.Spot{Tile: 7, Piece: 3, To: 2}, api.Spot{Tile: 12, Piece: 4, To: 3}
	arg, none := api.Spot{Tile: 7, Piece: 3, To: 3}, api.Spot{Tile: 3, Piece: 2, To: 0}
	for _, s := range wrongSpots() {
		for _, l := range [][]api.Spot{{s.s}, {good, good, s.s}, {good, far, s.s, arg, none}, {s.s, none, arg}} {
			if e := rail.Way(r, l); e != s.want {
				t.Errorf("%v: %d, want %d", l, e, s.want)
			}
		}
	}
	for want, l := range map[api.Errno][]api.Spot{api.ErrNone: {none, arg}, api.ErrArg: {arg, none}, api.ErrFit: {good, far}} {
		if e := rail.Way(r, l); e != want {
			t.Errorf("%v: %d, want %d", l, e, want)
		}
	}
}
