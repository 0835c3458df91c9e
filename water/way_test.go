package water_test

import (
	"slices"
	"testing"

	"hinterland/api"
	"hinterland/water"
)

func TestP6_3Joined(t *testing.T) {
	seen := map[[3]int]int{} // how often, by the two kinds and whether they are joined
	for i, l := range lands(t) {
		w := roomy(filled(l, uint64(i), 2+i%6))
		kept := whole(w)
		for tile := range l.W * l.H {
			for side := range 4 {
				want := joinedOf(l, w, tile, side)
				if x, e := water.Joined(l, w, tile, side); e != api.OK || x != want {
					t.Fatalf("land %d, %v: Joined %d, %d: %t, %d, want %t", i, w, tile, side, x, e, want)
				}
				next := beyondOf(l, tile, side)
				if next < 0 || !isWet(l, w, tile) || !isWet(l, w, next) {
					continue
				}
				if want {
					seen[[3]int{w.Kinds[tile], w.Kinds[next], 1}]++
				} else {
					seen[[3]int{w.Kinds[tile], w.Kinds[next], 0}]++
				}
			}
		}
		if !same(whole(w), kept) {
			t.Fatalf("land %d: its argument was changed", i)
		}
	}
	// Beside a lock but not along it the land lets nothing lie but another lock.
	for _, x := range [][3]int{{0, 0, 1}, {0, 3, 1}, {3, 3, 1}, {1, 1, 1}, {1, 3, 1}, {2, 2, 0}, {0, 2, 1}, {2, 0, 1}, {1, 2, 1}, {2, 1, 1}, {3, 2, 1}, {2, 3, 1}} {
		if seen[x] == 0 {
			t.Errorf("kinds and joined %v never came", x)
		}
	}
}

func TestP6_3JoinedByHand(t *testing.T) {
	l := stairs()
	w := chart(nil, "00030000", "02121321", "02121321", "00000100")
	w.Kinds[3] = 0
	w.Kinds[5] = dock
	tests := []struct {
		tile, side int
		want       bool
	}{
		{0, 1, true}, // sea and sea
		{8, 3, true},
		{0, 0, false}, // a slope without a lock
		{0, 2, false}, // the border
		{0, 3, false},
		{24, 1, false},
		{31, 0, false},
		{8, 0, true}, // sea and a lock
		{9, 2, true},
		{9, 0, true}, // a lock and the canal above it
		{10, 2, true},
		{10, 0, true}, // a canal and the lock that goes up from it
		{11, 2, true},
		{11, 0, true},
		{9, 1, false}, // two locks that lie along each other
		{17, 3, false},
		{9, 3, false}, // a lock and a slope
		{10, 1, true}, // two canals
		{18, 3, true},
		{12, 0, true}, // a canal and a dock
		{13, 2, true},
		{13, 0, true}, // a dock and the lock that goes down from it
		{14, 2, true},
		{14, 0, true}, // a lock and the canal below it
		{15, 2, true},
		{5, 1, true}, // docks in two rows
		{13, 3, true},
		{21, 1, true}, // a dock and a canal
		{18, 1, false},
		{2, 1, false}, // land and a canal
		{5, 0, false},
		{5, 2, false},
	}
	for _, test := range tests {
		x, e := water.Joined(l, w, test.tile, test.side)
		if e != api.OK || x != test.want {
			t.Errorf("Joined %d, %d: %t, %d, want %t", test.tile, test.side, x, e, test.want)
		}
		m, v := turned(l, w)
		x, e = water.Joined(m, v, turnedTile(l, test.tile), []int{1, 0, 3, 2}[test.side])
		if e != api.OK || x != test.want {
			t.Errorf("turned Joined %d, %d: %t, %d, want %t", test.tile, test.side, x, e, test.want)
		}
	}
}

// Two locks behind each other, and a canal beside a lock but not along it.
func TestP6_3Locks(t *testing.T) {
	long := picture("cdefgg", "cdefgg", "cdefgg", "cdefgg", "cdefgg")
	w := chart(nil, "22221", "00000", "20220", "00000")
	for tile, want := range map[int][]bool{
		0: {false, false, false, false},
		1: {false, false, false, false},
		2: {false, false, false, false},
		3: {true, false, false, false},
		4: {false, false, true, false},
	} {
		for side, ok := range want {
			if x, e := water.Joined(long, w, tile, side); e != api.OK || x != ok {
				t.Errorf("Joined %d, %d: %t, %d", tile, side, x, e)
			}
		}
	}
	// A corner of a hill: the slopes to the east and to the south of it, and flat
	// tiles all around.
	hill := picture("eeedd", "eeedd", "eeedd", "ddddd", "ddddd")
	w = chart(nil, "1121", "1121", "2201", "1111")
	for tile, want := range map[int][]bool{
		1:  {true, true, true, false},
		2:  {true, false, true, false}, // a lock from west to east
		5:  {true, true, true, true},
		6:  {true, false, true, false},
		7:  {false, true, true, true},
		8:  {false, true, false, true}, // a lock from north to south
		9:  {false, true, false, true},
		13: {true, false, true, true},
		12: {true, false, false, true},
	} {
		for side, ok := range want {
			if x, e := water.Joined(hill, w, tile, side); e != api.OK || x != ok {
				t.Errorf("hill: Joined %d, %d: %t, %d", tile, side, x, e)
			}
		}
	}
}

func TestP6_3JoinedErrors(t *testing.T) {
	l, w := stairs(), river()
	tests := []struct {
		tile, side int
		want       api.Errno
	}{
		{-1, 0, api.ErrNone},
		{32, 0, api.ErrNone},
		{minInt, 1, api.ErrNone},
		{maxInt, 2, api.ErrNone},
		{32, 4, api.ErrNone}, // ahead of the side that is none
		{8, -1, api.ErrArg},
		{8, 4, api.ErrArg},
		{2, 4, api.ErrArg}, // of a tile that is not wet
		{8, minInt, api.ErrArg},
		{8, maxInt, api.ErrArg},
	}
	for _, test := range tests {
		if x, e := water.Joined(l, w, test.tile, test.side); x || e != test.want {
			t.Errorf("Joined %d, %d: %t, %d, want %d", test.tile, test.side, x, e, test.want)
		}
	}
}

func TestP6_3Next(t *testing.T) {
	count := [5]int{}
	back := 0
	for i, l := range lands(t) {
		w := filled(l, uint64(i), 2+i%6)
		for tile := range l.W * l.H {
			for from := -1; from < 4; from++ {
				x, e := water.Next(l, w, tile, from)
				if !isWet(l, w, tile) {
					if e != api.ErrNone || len(x) > 0 {
						t.Fatalf("land %d: Next %d, %d: %v, %d, want ErrNone", i, tile, from, x, e)
					}
					continue
				}
				want := nextOf(l, w, tile, from)
				if e != api.OK || !slices.Equal(x, want) {
					t.Fatalf("land %d, %v: Next %d, %d: %v, %d, want %v", i, w, tile, from, x, e, want)
				}
				count[len(want)]++
				if slices.Contains(want, from) {
					back++
				}
			}
		}
	}
	if slices.Min(count[:]) < 20 || back < 20 {
		t.Errorf("by length: %v; %d went back", count, back)
	}
}

func TestP6_3NextByHand(t *testing.T) {
	l, w := stairs(), river()
	w.Kinds[31] = dock // joined with nothing
	tests := []struct {
		tile, from int
		sides      []int
		want       api.Errno
	}{
		{8, -1, []int{0, 1, 3}, api.OK},
		{8, 0, []int{1, 3}, api.OK},
		{8, 1, []int{0, 3}, api.OK},
		{8, 2, []int{0, 1, 3}, api.OK}, // as if from beyond the border
		{8, 3, []int{0, 1}, api.OK},
		{9, -1, []int{0, 2}, api.OK},
		{9, 2, []int{0}, api.OK},
		{9, 1, []int{0, 2}, api.OK},
		{15, -1, []int{2}, api.OK},
		{15, 2, []int{2}, api.OK}, // the end of the canal: back
		{15, 0, []int{2}, api.OK},
		{0, 1, []int{1}, api.OK},
		{31, -1, nil, api.OK},
		{31, 0, nil, api.OK},
		{31, 3, nil, api.OK},
		{1, -1, nil, api.ErrNone}, // dry
		{18, 0, nil, api.ErrNone},
		{18, 4, nil, api.ErrNone}, // ahead of the side that is none
		{-1, 0, nil, api.ErrNone},
		{32, -1, nil, api.ErrNone},
		{32, -2, nil, api.ErrNone},
		{minInt, 0, nil, api.ErrNone},
		{maxInt, 0, nil, api.ErrNone},
		{8, -2, nil, api.ErrArg},
		{8, 4, nil, api.ErrArg},
		{8, minInt, nil, api.ErrArg},
		{8, maxInt, nil, api.ErrArg},
	}
	for _, test := range tests {
		if x, e := water.Next(l, w, test.tile, test.from); e != test.want || !slices.Equal(x, test.sides) {
			t.Errorf("Next %d, %d: %v, %d, want %v, %d", test.tile, test.from, x, e, test.sides, test.want)
		}
	}
}

func TestP6_4Areas(t *testing.T) {
	most := 0
	for i, l := range lands(t) {
		w := roomy(filled(l, uint64(i), 1+i%7))
		kept := whole(w)
		want := areasOf(l, w)
		x, e := water.Areas(l, w)
		if e != api.OK || !slices.Equal(x, want) {
			t.Fatalf("land %d, %v: Areas %v, %d, want %v", i, w, x, e, want)
		}
		scribble(x)
		if !same(whole(w), kept) {
			t.Fatalf("land %d: its argument was changed, or is shared", i)
		}
		if y, e := water.Areas(l, w); e != api.OK || !slices.Equal(y, want) {
			t.Fatalf("land %d: Areas once more: %v, %d, want %v", i, y, e, want)
		}
		most = max(most, slices.Max(want))
	}
	if most < 20 {
		t.Errorf("no area begins behind tile %d", most)
	}
}

func TestP6_4AreasByHand(t *testing.T) {
	down, fall := turned(stairs(), river())
	_, dry := turned(stairs(), bare(stairs()))
	tests := []struct {
		name string
		l    api.Land
		w    api.Waters
		want []int
	}{
		{"a river", stairs(), river(), []int{
			0, -1, -1, -1, -1, -1, -1, -1,
			0, 0, 0, 0, 0, 0, 0, 0,
			0, -1, -1, -1, -1, -1, -1, -1,
			0, -1, -1, -1, -1, -1, -1, -1,
		}},
		{"a river without its first lock", stairs(), marked(with(river(), 9, 0), 0), []int{
			0, -1, -1, -1, -1, -1, -1, -1,
			0, -1, 10, 10, 10, 10, 10, 10,
			0, -1, -1, -1, -1, -1, -1, -1,
			0, -1, -1, -1, -1, -1, -1, -1,
		}},
		{"a river to the south", down, fall, []int{
			0, 0, 0, 0,
			-1, 0, -1, -1, -1, 0, -1, -1, -1, 0, -1, -1, -1, 0, -1, -1, -1, 0, -1, -1, -1, 0, -1, -1, -1, 0, -1, -1,
		}},
		{"the sea to the north", down, dry, append([]int{0, 0, 0, 0}, slices.Repeat([]int{-1}, 28)...)},
		{"dry land", flat(4, 4, 9), bare(flat(4, 4, 9)), slices.Repeat([]int{-1}, 16)},
		{"the sea", flat(32, 32, 1), bare(flat(32, 32, 1)), make([]int, 1024)},
		// The area of tile 3 comes back around: 3, 7, 11, 10, 9, 8, 4 and not 0.
		{"a bow", flat(4, 4, 4), chart(nil, "0001", "1001", "1111", "0000"), []int{-1, -1, -1, 3, 3, -1, -1, 3, 3, 3, 3, 3, -1, -1, -1, -1}},
		{"a board", flat(4, 4, 4), chart(nil, "1010", "0101", "1010", "0101"), []int{0, -1, 2, -1, -1, 5, -1, 7, 8, -1, 10, -1, -1, 13, -1, 15}},
		{"locks side by side", stairs(), chart(nil, "02000000", "02000000", "00000000", "00000000"), []int{
			0, 0, -1, -1, -1, -1, -1, -1,
			0, 0, -1, -1, -1, -1, -1, -1,
			0, -1, -1, -1, -1, -1, -1, -1,
			0, -1, -1, -1, -1, -1, -1, -1,
		}},
		{"locks side by side inland", stairs(), chart(nil, "00020000", "00020000", "00000000", "00000000"), []int{
			0, -1, -1, 3, -1, -1, -1, -1,
			0, -1, -1, 11, -1, -1, -1, -1,
			0, -1, -1, -1, -1, -1, -1, -1,
			0, -1, -1, -1, -1, -1, -1, -1,
		}},
	}
	for _, test := range tests {
		if x, e := water.Areas(test.l, test.w); e != api.OK || !slices.Equal(x, test.want) {
			t.Errorf("%s: %v, %d, want %v", test.name, x, e, test.want)
		}
	}
}

func TestP6_4Flood(t *testing.T) {
	found := 0
	for i, l := range lands(t) {
		w := roomy(filled(l, uint64(i), i%6))
		kept := whole(w)
		var want []int
		for tile := range l.W * l.H {
			for side := range 4 {
				next := beyondOf(l, tile, side)
				if !isSea(l, tile) && baseOf(l, tile) <= 2 && w.Kinds[tile] == 0 && next >= 0 && isSea(l, next) {
					want = append(want, tile)
					break
				}
			}
		}
		x, e := water.Flood(l, w)
		if e != api.OK || !slices.Equal(x, want) {
			t.Fatalf("land %d, %v: Flood %v, %d, want %v", i, w, x, e, want)
		}
		scribble(x)
		if !same(whole(w), kept) {
			t.Fatalf("land %d: its argument was changed, or is shared", i)
		}
		found += len(want)
	}
	if found < 100 {
		t.Errorf("%d tiles in all", found)
	}
}

func TestP6_4FloodByHand(t *testing.T) {
	// The tiles 5 and 6 are sea; 0, 3, 8 and 11 reach down to it by a corner alone.
	pond := picture("eddde", "dcccd", "dcccd", "ddddd", "ddeed")
	shore := picture("bcddd", "bcccd", "bcccd", "cccdd", "cdddd")
	tests := []struct {
		name string
		l    api.Land
		w    api.Waters
		want []int
	}{
		{"the stairs", stairs(), bare(stairs()), []int{1, 9, 17, 25}},
		{"a lock", stairs(), river(), []int{1, 17, 25}},
		{"a dock at sea", stairs(), with(river(), 0, dock), []int{1, 17, 25}},
		{"a pond", pond, bare(pond), []int{1, 2, 4, 7, 9, 10}},
		{"a pond with a lock", pond, with(bare(pond), 9, lock), []int{1, 2, 4, 7, 10}},
		{"a shore", shore, bare(shore), []int{1, 2, 7, 10, 12, 13}},
		{"the sea", flat(5, 5, 2), bare(flat(5, 5, 2)), nil},
		{"dry land", flat(5, 5, 3), bare(flat(5, 5, 3)), nil},
	}
	for _, test := range tests {
		if x, e := water.Flood(test.l, test.w); e != api.OK || !slices.Equal(x, test.want) {
			t.Errorf("%s: %v, %d, want %v", test.name, x, e, test.want)
		}
	}
}

func TestP6_4Sail(t *testing.T) {
	longest, none := 0, 0
	for i, l := range lands(t) {
		w := roomy(filled(l, uint64(i), 1+i%7))
		kept := whole(w)
		for from := range l.W * l.H {
			ways := waysOf(l, w, from)
			for to, want := range ways {
				if (from+to+i)%3 > 0 {
					continue
				}
				x, e := water.Sail(l, w, from, to)
				if want == nil && (e != api.ErrNone || len(x) > 0) || want != nil && (e != api.OK || !slices.Equal(x, want)) {
					t.Fatalf("land %d, %v: Sail %d, %d: %v, %d, want %v", i, w, from, to, x, e, want)
				}
				scribble(x)
				longest = max(longest, len(want))
				if want == nil && isWet(l, w, from) && isWet(l, w, to) {
					none++
				}
			}
		}
		if !same(whole(w), kept) {
			t.Fatalf("land %d: its argument was changed, or is shared", i)
		}
	}
	if longest < 10 || none < 100 {
		t.Errorf("the longest way has %d tiles, %d times there is none", longest, none)
	}
}

func TestP6_4SailByHand(t *testing.T) {
	ring := chart(nil, "11110", "10010", "10011", "11111")
	tests := []struct {
		name     string
		l        api.Land
		w        api.Waters
		from, to int
		want     []int
	}{
		{"up the river", stairs(), river(), 24, 15, []int{24, 16, 8, 9, 10, 11, 12, 13, 14, 15}},
		{"down the river", stairs(), river(), 15, 0, []int{15, 14, 13, 12, 11, 10, 9, 8, 0}},
		{"to itself", stairs(), river(), 10, 10, []int{10}},
		{"to itself at sea", stairs(), river(), 24, 24, []int{24}},
		{"to itself alone", stairs(), with(bare(stairs()), 31, dock), 31, 31, []int{31}},
		{"around to the north", flat(5, 4, 3), ring, 5, 8, []int{5, 0, 1, 2, 3, 8}},
		{"around to the south", flat(5, 4, 3), ring, 10, 18, []int{10, 15, 16, 17, 18}},
		{"of two ways the one of the least tiles", flat(5, 4, 3), ring, 18, 0, []int{18, 13, 8, 3, 2, 1, 0}},
		{"back, the least first step", flat(5, 4, 3), ring, 0, 18, []int{0, 1, 2, 3, 8, 13, 18}},
		{"at sea to the east and south", flat(4, 4, 0), bare(flat(4, 4, 0)), 0, 10, []int{0, 1, 2, 6, 10}},
		{"at sea to the west and north", flat(4, 4, 0), bare(flat(4, 4, 0)), 10, 0, []int{10, 6, 2, 1, 0}},
		{"at sea to the west and south", flat(4, 4, 0), bare(flat(4, 4, 0)), 2, 8, []int{2, 1, 0, 4, 8}},
		{"at sea to the east and north", flat(4, 4, 0), bare(flat(4, 4, 0)), 8, 2, []int{8, 4, 0, 1, 2}},
		{"dry at the end", stairs(), river(), 8, 18, nil},
		{"dry at the beginning", stairs(), river(), 18, 8, nil},
		{"dry, to itself", stairs(), river(), 18, 18, nil},
		{"no way", stairs(), with(river(), 31, canal), 8, 31, nil},
		{"no way back", stairs(), with(river(), 31, canal), 31, 8, nil},
		{"from no tile", stairs(), river(), -1, 8, nil},
		{"to no tile", stairs(), river(), 8, 32, nil},
		{"from no tile to itself", stairs(), river(), 32, 32, nil},
		{"far off", stairs(), river(), minInt, maxInt, nil},
		{"farther off", stairs(), river(), maxInt, minInt, nil},
	}
	for _, test := range tests {
		e := api.OK
		if test.want == nil {
			e = api.ErrNone
		}
		if x, f := water.Sail(test.l, test.w, test.from, test.to); f != e || !slices.Equal(x, test.want) {
			t.Errorf("%s: %v, %d, want %v, %d", test.name, x, f, test.want, e)
		}
	}
}

// R2: Validate's errors come first, whatever else is wrong.
func TestP6_4WrongWaters(t *testing.T) {
	for _, x := range wrongs() {
		if y, e := water.Areas(x.l, x.w); e != x.want || len(y) > 0 {
			t.Errorf("%s: Areas %v, %d, want %d", x.name, y, e, x.want)
		}
		if y, e := water.Flood(x.l, x.w); e != x.want || len(y) > 0 {
			t.Errorf("%s: Flood %v, %d, want %d", x.name, y, e, x.want)
		}
		for _, tile := range []int{2, -1} {
			if y, e := water.Joined(x.l, x.w, tile, 9); e != x.want || y {
				t.Errorf("%s: Joined %d: %t, %d, want %d", x.name, tile, y, e, x.want)
			}
			if y, e := water.Next(x.l, x.w, tile, 9); e != x.want || len(y) > 0 {
				t.Errorf("%s: Next %d: %v, %d, want %d", x.name, tile, y, e, x.want)
			}
			if y, e := water.Sail(x.l, x.w, tile, tile); e != x.want || len(y) > 0 {
				t.Errorf("%s: Sail %d: %v, %d, want %d", x.name, tile, y, e, x.want)
			}
		}
	}
}
