package span_test

import (
	"slices"
	"testing"

	"hinterland/api"
	"hinterland/span"
)

func TestP5_4Over(t *testing.T) {
	most := 0
	for i, l := range append(lands(t), pyramid()) {
		spans := sample(t, l, uint64(i), 12)
		for tile := range l.W * l.H {
			var want []api.Span
			for _, s := range spans {
				if slices.Contains(middleOf(l, s), tile) {
					want = append(want, s)
				}
			}
			list := roomy(spans)
			kept := slices.Clone(whole(list))
			x, e := span.Over(l, list, tile)
			if e != api.OK || !slices.Equal(x, want) {
				t.Fatalf("land %d: Over %d of %v: %v, %d, want %v", i, tile, spans, x, e, want)
			}
			scribble(whole(x))
			if !slices.Equal(whole(list), kept) {
				t.Fatalf("land %d: Over %d: the list was changed, or is shared", i, tile)
			}
			most = max(most, len(want))
		}
	}
	if most < 3 {
		t.Errorf("at most %d spans cross a tile", most)
	}
}

func TestP5_4OverByHand(t *testing.T) {
	l := hill(t, 12, 5, 6, 0, 8, 5)
	list := []api.Span{bridge(0, 4), bridge(1, 25), street(bridge(1, 25)), bridge(12, 16), tunnel(29, 32)}
	for tile, want := range map[int][]api.Span{
		0:  nil,
		1:  {list[0]},
		3:  {list[0]},
		4:  nil,
		13: {list[1], list[2], list[3]},
		12: nil,
		25: nil,
		29: nil,
		30: {list[4]},
		31: {list[4]},
		32: nil,
		59: nil,
	} {
		if x, e := span.Over(l, list, tile); e != api.OK || !slices.Equal(x, want) {
			t.Errorf("Over %d: %v, %d, want %v", tile, x, e, want)
		}
	}
	for _, tile := range []int{-1, 60, -12, minInt, maxInt} {
		if x, e := span.Over(l, list, tile); e != api.ErrNone || len(x) > 0 {
			t.Errorf("Over %d: %v, %d", tile, x, e)
		}
	}
}

// crossed is what P5.4 says of Cross, by the map: one who goes on in the
// direction side comes to the other head.
func crossed(l api.Land, spans []api.Span, tile, side int) (int, int, api.Errno) {
	for _, s := range spans {
		for _, way := range [][2]int{{s.A, s.B}, {s.B, s.A}} {
			if way[0] != tile {
				continue
			}
			right, down := way[1]%l.W-tile%l.W, way[1]/l.W-tile/l.W
			if side == 0 && right > 0 || side == 1 && down > 0 || side == 2 && right < 0 || side == 3 && down < 0 {
				return way[1], len(middleOf(l, s)), api.OK
			}
		}
	}
	return 0, 0, api.ErrNone
}

func TestP5_4Cross(t *testing.T) {
	through := [4]int{}
	for i, l := range append(lands(t), pyramid()) {
		spans := sample(t, l, uint64(i), 12)
		for tile := -1; tile <= l.W*l.H; tile++ {
			for side := range 4 {
				to, n, e := crossed(l, spans, tile, side)
				x, m, f := span.Cross(l, spans, tile, side)
				if x != to || m != n || f != e {
					t.Fatalf("land %d: Cross %d, %d of %v: %d, %d, %d, want %d, %d, %d", i, tile, side, spans, x, m, f, to, n, e)
				}
				if e == api.OK {
					through[side]++
				}
			}
		}
	}
	if slices.Min(through[:]) < 100 {
		t.Errorf("by side: %v", through)
	}
}

func TestP5_4CrossByHand(t *testing.T) {
	l := hill(t, 12, 5, 6, 0, 8, 5)
	list := []api.Span{
		bridge(1, 3), bridge(1, 4), bridge(1, 25), bridge(1, 37), bridge(13, 37), bridge(15, 17), bridge(25, 27), bridge(26, 29),
		tunnel(29, 32),
	}
	tests := []struct {
		tile, side, to, n int
		want              api.Errno
	}{
		{1, 0, 3, 1, api.OK},  // the first one of those to the east
		{1, 1, 25, 1, api.OK}, // the first one of those to the south
		{1, 2, 0, 0, api.ErrNone},
		{1, 3, 0, 0, api.ErrNone},
		{3, 2, 1, 1, api.OK},
		{4, 2, 1, 2, api.OK},
		{4, 0, 0, 0, api.ErrNone},
		{25, 3, 1, 1, api.OK},
		{25, 0, 27, 1, api.OK},
		{25, 1, 0, 0, api.ErrNone},
		{37, 3, 1, 2, api.OK}, // ahead of the one to 13
		{13, 1, 37, 1, api.OK},
		{17, 2, 15, 1, api.OK},
		{29, 2, 26, 2, api.OK}, // the head of a bridge and of a tunnel
		{29, 0, 32, 2, api.OK},
		{29, 1, 0, 0, api.ErrNone},
		{32, 2, 29, 2, api.OK},
		{32, 0, 0, 0, api.ErrNone},
		{2, 0, 0, 0, api.ErrNone}, // it is crossed
		{30, 0, 0, 0, api.ErrNone},
		{0, 0, 0, 0, api.ErrNone},
		{-1, 0, 0, 0, api.ErrNone},
		{60, 3, 0, 0, api.ErrNone},
		{minInt, 2, 0, 0, api.ErrNone},
		{maxInt, 1, 0, 0, api.ErrNone},
		{1, -1, 0, 0, api.ErrArg},
		{1, 4, 0, 0, api.ErrArg},
		{1, minInt, 0, 0, api.ErrArg},
		{1, maxInt, 0, 0, api.ErrArg},
		{-1, 4, 0, 0, api.ErrArg},
		{60, -1, 0, 0, api.ErrArg},
	}
	for _, test := range tests {
		if to, n, e := span.Cross(l, list, test.tile, test.side); to != test.to || n != test.n || e != test.want {
			t.Errorf("Cross %d, %d: %d, %d, %d, want %d, %d, %d", test.tile, test.side, to, n, e, test.to, test.n, test.want)
		}
	}
}

func TestP5_5Held(t *testing.T) {
	for i, l := range append(lands(t), pyramid()) {
		for seed := range uint64(5) {
			spans := sample(t, l, seed, 3+int(seed)*3)
			var want []int
			for tile := range l.W * l.H {
				held := func(s api.Span) bool {
					return s.A == tile || s.B == tile || s.Kind == 0 && slices.Contains(middleOf(l, s), tile)
				}
				if slices.ContainsFunc(spans, held) {
					want = append(want, tile)
				}
			}
			if x, e := span.Held(l, spans); e != api.OK || !slices.Equal(x, want) {
				t.Fatalf("land %d: Held of %v: %v, %d, want %v", i, spans, x, e, want)
			}
		}
	}
}

func TestP5_5HeldByHand(t *testing.T) {
	l := hill(t, 12, 5, 6, 0, 8, 5)
	tests := []struct {
		list []api.Span
		want []int
	}{
		{[]api.Span{bridge(0, 4)}, []int{0, 1, 2, 3, 4}},
		{[]api.Span{bridge(1, 37)}, []int{1, 13, 25, 37}},
		{[]api.Span{tunnel(29, 32)}, []int{29, 32}},
		{[]api.Span{bridge(0, 4), bridge(1, 37), street(bridge(1, 37)), bridge(12, 14), tunnel(29, 32)}, []int{0, 1, 2, 3, 4, 12, 13, 14, 25, 29, 32, 37}},
		{[]api.Span{bridge(26, 29), tunnel(29, 32), tunnel(41, 44)}, []int{26, 27, 28, 29, 32, 41, 44}},
	}
	for _, test := range tests {
		if x, e := span.Held(l, test.list); e != api.OK || !slices.Equal(x, test.want) {
			t.Errorf("%v: %v, %d, want %v", test.list, x, e, test.want)
		}
	}
}

// R11: lists that equal calls return are the same, and are no one else's.
func TestP5_5HeldIsNewMemory(t *testing.T) {
	l, list := rows(7)
	a, _ := span.Held(l, list)
	kept := slices.Clone(a)
	clear(a)
	if b, e := span.Held(l, list); e != api.OK || !slices.Equal(b, kept) {
		t.Errorf("%v, then %v, %d", kept, b, e)
	}
}
