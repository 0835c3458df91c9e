package land_test

import (
	"hash/fnv"
	"math"
	"slices"
	"strings"
	"testing"

	"hinterland/api"
	"hinterland/land"
	"hinterland/roll"
)

// settled is P2.2 word for word: the least, over all corners.
func settled(w, h int, heights []int) []int {
	var corners []int
	for y := range h + 1 {
		for x := range w + 1 {
			least := maxInt
			for v := range h + 1 {
				for u := range w + 1 {
					z := min(max(heights[v*(w+1)+u], 0), api.MaxHeight)
					least = min(least, z+max(u-x, x-u)+max(v-y, y-v))
				}
			}
			corners = append(corners, least)
		}
	}
	return corners
}

func TestP2_2Settle(t *testing.T) {
	s := roll.New(2, "settle")
	for _, sides := range [][2]int{{4, 4}, {4, 9}, {11, 5}, {32, 4}, {7, 32}} {
		w, h := sides[0], sides[1]
		for _, spread := range []int{3, 20, 60, 2000} {
			raw := make([]int, (w+1)*(h+1))
			for i := range raw {
				k, next := roll.Below(s, spread)
				raw[i], s = k-spread/4, next
			}
			kept := slices.Clone(raw)
			l, e := land.Settle(w, h, raw)
			if e != api.OK || l.W != w || l.H != h || !slices.Equal(l.Corners, settled(w, h, raw)) {
				t.Errorf("%d to %d, spread %d: %v, %d", w, h, spread, l, e)
			}
			if !slices.Equal(raw, kept) {
				t.Errorf("the raw heights were changed")
			}
			if e := land.Validate(l); e != api.OK {
				t.Errorf("what is settled is no land: %d", e)
			}
		}
	}
}

// A single low corner is felt all around, from wherever it is.
func TestP2_2SettleOfOneCorner(t *testing.T) {
	for low := range 5 * 6 {
		raw := slices.Repeat([]int{maxInt}, 5*6)
		raw[low] = minInt
		l, e := land.Settle(4, 5, raw)
		if e != api.OK {
			t.Fatal(e)
		}
		for i, z := range l.Corners {
			if want := max(i%5-low%5, low%5-i%5) + max(i/5-low/5, low/5-i/5); z != want {
				t.Errorf("the corner %d is at %d, %d steps off the low one %d", i, z, want, low)
			}
		}
	}
}

func TestP2_2SettleBounds(t *testing.T) {
	for _, test := range []struct{ raw, want int }{
		{minInt, 0}, {-1, 0}, {0, 0}, {1, 1}, {14, 14}, {15, 15}, {16, 15}, {maxInt, 15},
	} {
		l, e := land.Settle(4, 4, slices.Repeat([]int{test.raw}, 25))
		if e != api.OK || !same(l, flat(4, 4, test.want)) {
			t.Errorf("of %d: %v, %d", test.raw, l, e)
		}
	}
}

func TestP2_2SettleErrors(t *testing.T) {
	tests := []struct{ w, h, n int }{
		{3, 4, 20}, {4, 3, 20}, {33, 4, 170}, {4, 33, 170}, {0, 0, 1}, {-1, -1, 0}, {-2, -2, 1}, {-6, -6, 25},
		{4, 4, 0}, {4, 4, 24}, {4, 4, 26}, {4, 5, 25}, {4, 5, 20}, {minInt, minInt, 1}, {maxInt, maxInt, 0},
	}
	for _, test := range tests {
		if l, e := land.Settle(test.w, test.h, make([]int, test.n)); e != api.ErrArg || !isNone(l) {
			t.Errorf("%v: %v, %d", test, l, e)
		}
	}
}

// The pictures were made by a model of P2.3 in another language.
func TestP2_3Grow(t *testing.T) {
	tests := []struct {
		seed        uint64
		w, h, rough int
		want        string
	}{
		{7, 4, 4, 0, "aaaaa aaaaa aaaaa aaaaa aaaaa"},
		{7, 5, 4, 2, "kjihhh jiihgg ihhggg ihghgg ihhihh"},
		{1900, 9, 6, 4, "pponmlkkjk ponmlkjjij onmlkjiihi nmlkjihhgh mlkjihggfg lkjihgffgh kjihggfggh"},
		{0, 12, 7, 1, "dcbcdcdeffedc ccbcdddefedcc bbbcdddefeedd bbbcddeefeedd ccccdefffeddd ccddeefefeedd ddeeeeeeffede deeeeeefffedd"},
		{math.MaxUint64, 8, 9, 3, "lkjihgfee mlkjihgfe nmlkjihgf mlkjijihg mlkjijjih nmlkjkkji nnmlkllkj mmmmlmmlk llmmmnnml kklmmnnmm"},
	}
	for _, test := range tests {
		l, e := land.Grow(test.seed, test.w, test.h, test.rough)
		if e != api.OK || !same(l, picture(strings.Fields(test.want)...)) {
			t.Errorf("%v: %v, %d", test, l, e)
		}
	}
}

// The sums are of the pictures that the model made.
func TestP2_3GrowOfWideLands(t *testing.T) {
	tests := []struct {
		seed        uint64
		w, h, rough int
		want        uint64
	}{
		{1, 32, 32, 4, 0x93e224611aeb0096},
		{2, 32, 31, 3, 0x941171552a05f307},
		{3, 17, 32, 2, 0x8ab5cf00aeddb6b2},
		{4, 31, 16, 1, 0x466c0d27bb03bfe3},
	}
	for _, test := range tests {
		l, e := land.Grow(test.seed, test.w, test.h, test.rough)
		if e != api.OK || land.Validate(l) != api.OK {
			t.Fatalf("%v: %d", test, e)
		}
		sum := fnv.New64a()
		for i, z := range l.Corners {
			sum.Write([]byte{'a' + byte(z)})
			if i%(test.w+1) == test.w {
				sum.Write([]byte{'\n'})
			}
		}
		if sum.Sum64() != test.want {
			t.Errorf("%v: %#x", test, sum.Sum64())
		}
	}
}

// R5 and R11: equal calls return equal lands, in memory of their own.
func TestP2_3GrowIsNewMemory(t *testing.T) {
	a := grown(t, 9, 6, 5, 3)
	kept := slices.Clone(a.Corners)
	clear(a.Corners)
	if b := grown(t, 9, 6, 5, 3); !slices.Equal(b.Corners, kept) {
		t.Errorf("the second land is %v, the first %v", b.Corners, kept)
	}
}

func TestP2_3GrowErrors(t *testing.T) {
	tests := []struct{ w, h, rough int }{
		{3, 4, 2}, {4, 3, 2}, {33, 4, 2}, {4, 33, 2}, {0, 0, 0}, {-4, -4, 2}, {4, 4, -1}, {4, 4, 5},
		{minInt, 4, 2}, {4, maxInt, 2}, {maxInt, maxInt, 2}, {4, 4, minInt}, {4, 4, maxInt},
	}
	for _, test := range tests {
		if l, e := land.Grow(7, test.w, test.h, test.rough); e != api.ErrArg || !isNone(l) {
			t.Errorf("%v: %v, %d", test, l, e)
		}
	}
}
