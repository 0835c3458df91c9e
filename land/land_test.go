package land_test

import (
	"math"
	"slices"
	"strings"
	"testing"

	"hinterland/api"
	"hinterland/land"
)

const (
	minInt = math.MinInt
	maxInt = math.MaxInt
)

// picture makes a land of lines of letters by hand, without Parse.
func picture(lines ...string) api.Land {
	l := api.Land{W: len(lines[0]) - 1, H: len(lines) - 1}
	for _, b := range []byte(strings.Join(lines, "")) {
		l.Corners = append(l.Corners, int(b)-'a')
	}
	return l
}

// flat makes a land whose corners are all at height.
func flat(w, h, height int) api.Land {
	return api.Land{W: w, H: h, Corners: slices.Repeat([]int{height}, (w+1)*(h+1))}
}

// grown makes a land with slopes of all kinds.
func grown(t *testing.T, seed uint64, w, h, rough int) api.Land {
	t.Helper()
	l, e := land.Grow(seed, w, h, rough)
	if e != api.OK {
		t.Fatalf("Grow(%d, %d, %d, %d): %d", seed, w, h, rough, e)
	}
	return l
}

func same(a, b api.Land) bool {
	return a.W == b.W && a.H == b.H && slices.Equal(a.Corners, b.Corners)
}

func isNone(l api.Land) bool {
	return l.W == 0 && l.H == 0 && l.Corners == nil
}

// at returns the height of the corner (x, y).
func at(l api.Land, x, y int) int {
	return l.Corners[y*(l.W+1)+x]
}

// fourOf returns a tile's heights: north-west, north-east, south-east,
// south-west.
func fourOf(l api.Land, x, y int) []int {
	return []int{at(l, x, y), at(l, x+1, y), at(l, x+1, y+1), at(l, x, y+1)}
}

func sumOf(list []int) int {
	sum := 0
	for _, k := range list {
		sum += k
	}
	return sum
}

// wrongLands are lands with what Validate says of them.
func wrongLands() map[api.Errno][]api.Land {
	short := flat(5, 4, 3)
	short.Corners = short.Corners[1:]
	long := flat(5, 4, 3)
	long.Corners = append(long.Corners, 3)
	below, above := flat(5, 4, 0), flat(5, 4, 15)
	below.Corners[29], above.Corners[29] = -1, 16
	least, most := flat(5, 4, 0), flat(5, 4, 15)
	least.Corners[0], most.Corners[0] = minInt, maxInt
	both := picture("aaaaa", "acaaa", "aaaaa", "aaaaa", "aaaaa") // too steep ahead of the wrong height
	both.Corners[24] = 16
	return map[api.Errno][]api.Land{
		api.ErrArg: {
			{}, flat(3, 4, 3), flat(4, 3, 3), flat(33, 4, 3), flat(4, 33, 3), flat(0, 0, 3),
			{W: maxInt, H: maxInt}, {W: minInt, H: minInt, Corners: []int{1}}, {W: -1, H: -1},
			{W: -2, H: 4, Corners: []int{1}}, {W: 4, H: -6, Corners: flat(4, 4, 3).Corners},
			{W: 4, H: 4}, {W: 5, H: 4, Corners: flat(4, 5, 3).Corners[1:]},
			short, long, below, above, least, most, both,
		},
		api.ErrSlope: {
			picture("accaa", "acaaa", "aaaaa", "aaaaa", "aaaaa"),
			picture("ddddd", "ddddd", "ddddd", "ddddd", "ddddb"),
			picture("ddddf", "ddddd", "ddddd", "ddddd", "ddddd"),
			picture("ddddd", "ddddd", "bcddd", "ddddd", "ddddd"),
			picture("aaaaa", "bbbbb", "ddddd", "eeeee", "fffff"),
			picture("abcef", "abcef", "abcef", "abcef", "abcef"),
		},
	}
}

func TestP2_1Validate(t *testing.T) {
	for want, lands := range wrongLands() {
		for i, l := range lands {
			if e := land.Validate(l); e != want {
				t.Errorf("land %d of %d: %d", i, want, e)
			}
		}
	}
	right := []api.Land{
		flat(4, 4, 0), flat(32, 32, 15), flat(4, 32, 3), flat(32, 4, 3),
		picture("abcdef", "bcdefg", "cdefgh", "defghi", "efghij"),
		// The east end of a row and the west end of the next are no neighbours.
		picture("aabcde", "abcdef", "aabcde", "aaabcd", "aaaabc"),
		picture("lmnop", "klmno", "jklmn", "ijklm", "hijkl"),
	}
	for i, l := range right {
		if e := land.Validate(l); e != api.OK {
			t.Errorf("right land %d: %d", i, e)
		}
	}
}

// R2 and R3: each call returns Validate's errors ahead of its own, with zero
// values.
func TestR2ErrorsOfLands(t *testing.T) {
	long := make([]int, api.MaxList+1)
	for want, lands := range wrongLands() {
		for i, l := range lands {
			slope, base, e1 := land.Slope(l, -1)
			water, e2 := land.Water(l, -1)
			river, e3 := land.River(l, -1)
			shifted, list, cost, e4 := land.Shift(l, -1, -1, true, nil)
			level, paid, e5 := land.Level(l, long, -1, nil)
			snow, e6 := land.Snow(l, -1, -1, -1)
			text, e7 := land.Text(l)
			for j, e := range []api.Errno{e1, e2, e3, e4, e5, e6, e7} {
				if e != want {
					t.Errorf("land %d of %d, call %d: %d", i, want, j, e)
				}
			}
			if slope != 0 || base != 0 || water || river != nil || snow || text != "" {
				t.Errorf("land %d of %d: a result behind an error is not zero", i, want)
			}
			if !isNone(shifted) || list != nil || cost != 0 || !isNone(level) || paid != 0 {
				t.Errorf("land %d of %d: a shaped land behind an error is not zero", i, want)
			}
		}
	}
}

func TestP2_4Slope(t *testing.T) {
	tests := []struct {
		north, south string // the two rows of corners of the tile
		slope, base  int
	}{
		{"dd", "dd", 0, 3},
		{"ed", "dd", 1, 3},
		{"de", "dd", 2, 3},
		{"dd", "de", 4, 3},
		{"dd", "ed", 8, 3},
		{"ee", "dd", 3, 3},
		{"de", "de", 6, 3},
		{"dd", "ee", 12, 3},
		{"ed", "ed", 9, 3},
		{"ed", "de", 5, 3},
		{"de", "ed", 10, 3},
		{"de", "ee", 14, 3},
		{"fe", "ed", 16 + 11, 3},
		{"ef", "de", 16 + 7, 3},
		{"de", "ef", 16 + 14, 3},
		{"ed", "fe", 16 + 13, 3},
		{"aa", "aa", 0, 0},
		{"po", "on", 16 + 11, 13},
	}
	for _, test := range tests {
		raw := slices.Repeat([]int{15}, 6*6)
		raw[2*6+3], raw[2*6+4] = int(test.north[0]-'a'), int(test.north[1]-'a')
		raw[3*6+3], raw[3*6+4] = int(test.south[0]-'a'), int(test.south[1]-'a')
		l, _ := land.Settle(5, 5, raw)
		slope, base, e := land.Slope(l, 2*5+3)
		if slope != test.slope || base != test.base || e != api.OK {
			t.Errorf("%q: slope %d of base %d, %d", test.north+test.south, slope, base, e)
		}
	}
}

func TestP2_4SlopeOfEachTile(t *testing.T) {
	l := grown(t, 5, 13, 9, 4)
	steep := 0
	for y := range l.H {
		for x := range l.W {
			four := fourOf(l, x, y)
			base := min(four[0], four[1], four[2], four[3])
			want := 0
			for i, bit := range []int{1, 2, 4, 8} {
				if four[i] > base {
					want += bit
				}
			}
			if slices.Contains(four, base+2) {
				want += 16
				steep++
			}
			slope, low, e := land.Slope(l, y*l.W+x)
			if slope != want || low != base || e != api.OK {
				t.Errorf("the tile (%d, %d): %d, %d, %d, want %d, %d", x, y, slope, low, e, want, base)
			}
		}
	}
	if steep == 0 {
		t.Error("no tile is steep")
	}
}

// coast has tiles of water, and tiles with one corner above the sea.
func coast() api.Land {
	return picture(
		"aabbc",
		"abccd",
		"bbccd",
		"abbcc",
		"aabcc",
	)
}

func TestP2_4Water(t *testing.T) {
	wet := []bool{
		true, true, true, false,
		true, true, true, false,
		true, true, true, false,
		true, true, true, true,
	}
	for tile, want := range wet {
		if is, e := land.Water(coast(), tile); is != want || e != api.OK {
			t.Errorf("tile %d: %t, %d", tile, is, e)
		}
	}
	for height := range api.MaxHeight + 1 {
		if is, e := land.Water(flat(4, 4, height), 7); is != (height <= api.Sea) || e != api.OK {
			t.Errorf("height %d: %t, %d", height, is, e)
		}
	}
	for i := range 4 {
		l := flat(4, 4, 2)
		l.Corners[[]int{6, 7, 12, 11}[i]] = 3
		if is, e := land.Water(l, 5); is || e != api.OK {
			t.Errorf("with the corner %d above the sea: %t, %d", i, is, e)
		}
	}
}

// riverOf is P2.4 word for word.
func riverOf(l api.Land, tile int) []int {
	list := []int{tile}
	for {
		x, y := tile%l.W, tile/l.W
		own := fourOf(l, x, y)
		if slices.Max(own) <= api.Sea {
			return list
		}
		least := sumOf(own)
		for _, d := range [][2]int{{1, 0}, {0, 1}, {-1, 0}, {0, -1}} {
			u, v := x+d[0], y+d[1]
			if u < 0 || v < 0 || u >= l.W || v >= l.H {
				continue
			}
			if sum := sumOf(fourOf(l, u, v)); sum < least {
				least, tile = sum, v*l.W+u
			}
		}
		if tile == list[len(list)-1] {
			return list
		}
		list = append(list, tile)
	}
}

func TestP2_4River(t *testing.T) {
	longest := 0
	for seed := range uint64(6) {
		l := grown(t, seed, 17, 12, 1+int(seed)%4)
		for tile := range l.W * l.H {
			want := riverOf(l, tile)
			list, e := land.River(l, tile)
			if !slices.Equal(list, want) || e != api.OK {
				t.Fatalf("seed %d, tile %d: %v, %d, want %v", seed, tile, list, e, want)
			}
			longest = max(longest, len(list))
		}
	}
	if longest < 6 {
		t.Errorf("the longest river has %d tiles", longest)
	}
}

func TestP2_4RiverEnds(t *testing.T) {
	hill := flat(5, 5, 5)
	hill.Corners[2*6+2] = 6 // the four tiles at it go down to two sides each
	dip := picture("fffff", "ffeff", "feeef", "ffeff", "fffff")
	east := picture("cdefg", "cdefg", "cdefg", "cdefg", "cdefg")
	tests := []struct {
		l    api.Land
		tile int
		want []int
	}{
		{flat(5, 4, 9), 7, []int{7}},
		{flat(5, 4, 2), 7, []int{7}},
		{hill, 2*5 + 2, []int{12, 13}}, // east and south are alike: east
		{hill, 2*5 + 1, []int{11, 16}}, // south and west are alike: south
		{hill, 1*5 + 1, []int{6, 5}},   // west and north are alike: west
		{hill, 1*5 + 2, []int{7, 8}},   // east and north are alike: east
		{dip, 0, []int{0, 1, 5}},       // south-east is none of the sides
		{east, 7, []int{7, 6, 5, 4}},   // the west end of a row is the end
		{coast(), 3, []int{3, 2}},      // behind the first tile of water it ends
		{coast(), 2, []int{2}},         // of water, although another tile is lower
	}
	for i, test := range tests {
		list, e := land.River(test.l, test.tile)
		if !slices.Equal(list, test.want) || e != api.OK {
			t.Errorf("river %d: %v, %d, want %v", i, list, e, test.want)
		}
	}
}

func TestP2_4NoTile(t *testing.T) {
	l := flat(5, 4, 3)
	for _, tile := range []int{-1, 20, minInt, maxInt} {
		if slope, base, e := land.Slope(l, tile); slope != 0 || base != 0 || e != api.ErrNone {
			t.Errorf("Slope of %d: %d, %d, %d", tile, slope, base, e)
		}
		if is, e := land.Water(flat(5, 4, 0), tile); is || e != api.ErrNone {
			t.Errorf("Water of %d: %t, %d", tile, is, e)
		}
		if list, e := land.River(l, tile); list != nil || e != api.ErrNone {
			t.Errorf("River of %d: %v, %d", tile, list, e)
		}
	}
	if _, base, e := land.Slope(l, 19); base != 3 || e != api.OK {
		t.Errorf("the last tile: base %d, %d", base, e)
	}
}

// The months from July, the shorter way round the year.
func TestP2_7Snow(t *testing.T) {
	away := []int{6, 5, 4, 3, 2, 1, 0, 1, 2, 3, 4, 5}
	half := []int{3, 2, 2, 1, 1, 0, 0, 0, 1, 1, 2, 2}
	for height := range api.MaxHeight + 1 {
		l := flat(4, 5, height)
		for month := 1; month <= 12; month++ {
			want := []bool{false, height >= 10-away[month-1], false, height >= 7-half[month-1]}
			for climate := range 4 {
				if is, e := land.Snow(l, 19, climate, month); is != want[climate] || e != api.OK {
					t.Errorf("height %d, climate %d, month %d: %t, %d", height, climate, month, is, e)
				}
			}
		}
	}
}

// What counts is the base of the tile, its least corner.
func TestP2_7SnowIsOfTheBase(t *testing.T) {
	for i, place := range []int{6, 7, 12, 11} {
		l := flat(4, 4, 10)
		l.Corners[place] = 9
		if is, e := land.Snow(l, 5, 1, 7); is || e != api.OK {
			t.Errorf("with the corner %d below the snow: %t, %d", i, is, e)
		}
		if is, e := land.Snow(l, 5, 1, 8); !is || e != api.OK {
			t.Errorf("with the corner %d at the snow: %t, %d", i, is, e)
		}
	}
}

func TestP2_7SnowErrors(t *testing.T) {
	l := flat(5, 4, 15)
	tests := []struct {
		tile, climate, month int
		want                 api.Errno
	}{
		{-1, 1, 1, api.ErrNone},
		{20, 1, 1, api.ErrNone},
		{minInt, 9, 13, api.ErrNone},
		{maxInt, -1, 0, api.ErrNone},
		{0, -1, 1, api.ErrArg},
		{0, 4, 1, api.ErrArg},
		{0, minInt, 1, api.ErrArg},
		{0, maxInt, 1, api.ErrArg},
		{0, 0, 0, api.ErrArg},
		{0, 2, 13, api.ErrArg},
		{0, 1, -1, api.ErrArg},
		{0, 3, minInt, api.ErrArg},
		{0, 3, maxInt, api.ErrArg},
	}
	for _, test := range tests {
		if is, e := land.Snow(l, test.tile, test.climate, test.month); is || e != test.want {
			t.Errorf("%v: %t, %d", test, is, e)
		}
	}
}
