package water_test

import (
	"slices"
	"testing"

	"hinterland/api"
	"hinterland/water"
)

func TestP6_1Wrong(t *testing.T) {
	for _, x := range wrongs() {
		if e := water.Validate(x.l, x.w); e != x.want {
			t.Errorf("%s: %d, want %d", x.name, e, x.want)
		}
	}
}

// Every kind on every tile, and a buoy.
func TestP6_1Kinds(t *testing.T) {
	good := [4]int{}
	for i, l := range lands(t) {
		for tile := range l.W * l.H {
			for kind := range 4 {
				want := api.ErrRule
				if lies(l, tile, kind) {
					want = api.OK
					good[kind]++
				}
				w := with(bare(l), tile, kind)
				if e := water.Validate(l, w); e != want {
					t.Fatalf("land %d, tile %d, heights %v, kind %d: %d, want %d", i, tile, fourOf(l, tile), kind, e, want)
				}
				if want == api.OK && !isWet(l, w, tile) {
					want = api.ErrRule
				}
				if e := water.Validate(l, marked(w, tile)); e != want {
					t.Fatalf("land %d, a buoy on tile %d, heights %v, kind %d: %d, want %d", i, tile, fourOf(l, tile), kind, e, want)
				}
			}
		}
	}
	if slices.Min(good[:]) < 200 {
		t.Errorf("by kind: %v", good)
	}
}

func TestP6_1Good(t *testing.T) {
	wide := api.Land{W: 32, H: 32, Corners: slices.Repeat([]int{3}, 33*33)}
	full := api.Waters{Kinds: slices.Repeat([]int{canal}, 1024)}
	for tile := range 1024 {
		full.Buoys = append(full.Buoys, tile)
	}
	down, fall := turned(stairs(), river())
	tests := []struct {
		name string
		l    api.Land
		w    api.Waters
	}{
		{"nothing", stairs(), bare(stairs())},
		{"empty buoys", stairs(), marked(bare(stairs()), []int{}...)},
		{"a river", stairs(), river()},
		{"a river to the south", down, fall},
		{"canals everywhere", wide, full},
		{"docks on the sea", flat(4, 4, 2), chart([]int{0, 5}, "3333", "0000", "0000", "3003")},
		{"docks on a sloping sea", picture("abcba", "abcba", "abcba", "abcba", "abcba"), chart([]int{1}, "3333", "0000", "0000", "0000")},
	}
	for _, test := range tests {
		if e := water.Validate(test.l, test.w); e != api.OK {
			t.Errorf("%s: %d", test.name, e)
		}
	}
	for i, l := range lands(t) {
		if e := water.Validate(l, filled(l, uint64(i), i%9)); e != api.OK {
			t.Errorf("land %d: %d", i, e)
		}
	}
}

// digError is that of Dig by the words of P6.2, for a tile without a kind.
func digError(l api.Land, tile, kind int) api.Errno {
	switch {
	case lies(l, tile, kind):
		return api.OK
	case kind == dock || isSea(l, tile):
		return api.ErrRule
	}
	return api.ErrSlope
}

func TestP6_2Dig(t *testing.T) {
	seen := map[api.Errno]int{}
	price := []int{0, api.CostCanal, 4 * api.CostCanal, 2 * api.CostCanal}
	for i, l := range lands(t) {
		w := roomy(filled(l, uint64(i), 3))
		kept := whole(w)
		for tile := range l.W * l.H {
			for kind := 1; kind < 4; kind++ {
				want := digError(l, tile, kind)
				if w.Kinds[tile] != 0 {
					want = api.ErrTaken
				}
				seen[want]++
				x, cost, e := water.Dig(l, w, tile, kind)
				if e != want {
					t.Fatalf("land %d: Dig %d, %d: %d, want %d", i, tile, kind, e, want)
				}
				if e == api.OK && (cost != price[kind] || !same(x, with(w, tile, kind))) {
					t.Fatalf("land %d: Dig %d, %d: %v, %d", i, tile, kind, x, cost)
				}
				if e != api.OK && (cost != 0 || !isZero(x)) {
					t.Fatalf("land %d: Dig %d, %d: %v, %d with %d", i, tile, kind, x, cost, e)
				}
				scribble(x.Kinds, x.Buoys)
				if !same(whole(w), kept) {
					t.Fatalf("Dig %d, %d: its argument was changed, or is shared", tile, kind)
				}
			}
		}
	}
	for _, e := range []api.Errno{api.OK, api.ErrTaken, api.ErrRule, api.ErrSlope} {
		if seen[e] < 100 {
			t.Errorf("%d came %d times", e, seen[e])
		}
	}
}

func TestP6_2DigByHand(t *testing.T) {
	l, w := stairs(), river()
	tests := []struct {
		tile, kind, cost int
		want             api.Errno
	}{
		{2, canal, 500, api.OK},
		{1, lock, 2000, api.OK},
		{30, lock, 2000, api.OK},
		{0, dock, 1000, api.OK},
		{31, dock, 1000, api.OK},
		{0, canal, 0, api.ErrRule},
		{0, lock, 0, api.ErrRule},
		{1, dock, 0, api.ErrRule},
		{1, canal, 0, api.ErrSlope},
		{2, lock, 0, api.ErrSlope},
		{9, lock, 0, api.ErrTaken},
		{10, dock, 0, api.ErrTaken},
		{9, canal, 0, api.ErrTaken}, // ahead of the wrong slope
		{9, dock, 0, api.ErrTaken},
		{9, 0, 0, api.ErrArg}, // ahead of the kind that is there
		{2, 0, 0, api.ErrArg},
		{2, -1, 0, api.ErrArg},
		{2, 4, 0, api.ErrArg},
		{2, minInt, 0, api.ErrArg},
		{2, maxInt, 0, api.ErrArg},
		{-1, canal, 0, api.ErrNone},
		{32, canal, 0, api.ErrNone},
		{32, 4, 0, api.ErrNone}, // ahead of the kind that is none
		{minInt, 0, 0, api.ErrNone},
		{maxInt, lock, 0, api.ErrNone},
	}
	for _, test := range tests {
		x, cost, e := water.Dig(l, w, test.tile, test.kind)
		if e != test.want || cost != test.cost || e != api.OK && !isZero(x) || e == api.OK && !same(x, with(w, test.tile, test.kind)) {
			t.Errorf("Dig %d, %d: %v, %d, %d, want %d, %d", test.tile, test.kind, x, cost, e, test.cost, test.want)
		}
	}
}

func TestP6_2Fill(t *testing.T) {
	seen := map[api.Errno]int{}
	for i, l := range lands(t) {
		w := roomy(filled(l, uint64(i), 5))
		kept := whole(w)
		for tile := range l.W * l.H {
			want := api.OK
			if w.Kinds[tile] == 0 {
				want = api.ErrNone
			} else if slices.Contains(w.Buoys, tile) && !isSea(l, tile) {
				want = api.ErrTaken
			}
			seen[want]++
			x, cost, e := water.Fill(l, w, tile)
			if e != want {
				t.Fatalf("land %d: Fill %d: %d, want %d", i, tile, e, want)
			}
			if e == api.OK && (cost != api.CostCanal/2 || !same(x, with(w, tile, 0))) {
				t.Fatalf("land %d: Fill %d: %v, %d", i, tile, x, cost)
			}
			if e != api.OK && (cost != 0 || !isZero(x)) {
				t.Fatalf("land %d: Fill %d: %v, %d with %d", i, tile, x, cost, e)
			}
			scribble(x.Kinds, x.Buoys)
			if !same(whole(w), kept) {
				t.Fatalf("Fill %d: its argument was changed, or is shared", tile)
			}
		}
	}
	for _, e := range []api.Errno{api.OK, api.ErrNone, api.ErrTaken} {
		if seen[e] < 100 {
			t.Errorf("%d came %d times", e, seen[e])
		}
	}
}

func TestP6_2FillByHand(t *testing.T) {
	l, w := stairs(), with(with(river(), 8, dock), 16, dock)
	tests := []struct {
		tile, cost int
		want       api.Errno
	}{
		{9, 250, api.OK},
		{10, 250, api.OK},
		{16, 250, api.OK},
		{8, 250, api.OK}, // a buoy at sea
		{11, 0, api.ErrTaken},
		{13, 0, api.ErrTaken},
		{0, 0, api.ErrNone}, // sea
		{2, 0, api.ErrNone},
		{-1, 0, api.ErrNone},
		{32, 0, api.ErrNone},
		{minInt, 0, api.ErrNone},
		{maxInt, 0, api.ErrNone},
	}
	for _, test := range tests {
		x, cost, e := water.Fill(l, w, test.tile)
		if e != test.want || cost != test.cost || e != api.OK && !isZero(x) || e == api.OK && !same(x, with(w, test.tile, 0)) {
			t.Errorf("Fill %d: %v, %d, %d, want %d, %d", test.tile, x, cost, e, test.cost, test.want)
		}
	}
}

func TestP6_2Mark(t *testing.T) {
	put, taken, dry := 0, 0, 0
	for i, l := range lands(t) {
		w := roomy(filled(l, uint64(i), 4))
		kept := whole(w)
		for tile := range l.W * l.H {
			x, e := water.Mark(l, w, tile)
			var want []int
			for other := range l.W * l.H {
				if slices.Contains(w.Buoys, other) != (other == tile) {
					want = append(want, other)
				}
			}
			switch {
			case !isWet(l, w, tile):
				dry++
				if e != api.ErrRule || !isZero(x) {
					t.Fatalf("land %d: Mark %d: %v, %d, want ErrRule", i, tile, x, e)
				}
				continue
			case slices.Contains(w.Buoys, tile):
				taken++
			default:
				put++
			}
			if e != api.OK || !same(x, marked(w, want...)) {
				t.Fatalf("land %d: Mark %d: %v, %d, want buoys %v", i, tile, x, e, want)
			}
			scribble(x.Kinds, x.Buoys)
			if !same(whole(w), kept) {
				t.Fatalf("Mark %d: its argument was changed, or is shared", tile)
			}
		}
	}
	if put < 100 || taken < 100 || dry < 100 {
		t.Errorf("put %d, taken %d, dry %d", put, taken, dry)
	}
}

func TestP6_2MarkByHand(t *testing.T) {
	l, w := stairs(), river()
	tests := []struct {
		tile  int
		buoys []int
		want  api.Errno
	}{
		{24, []int{0, 8, 11, 13, 24}, api.OK},
		{9, []int{0, 8, 9, 11, 13}, api.OK},
		{10, []int{0, 8, 10, 11, 13}, api.OK},
		{0, []int{8, 11, 13}, api.OK},
		{11, []int{0, 8, 13}, api.OK},
		{13, []int{0, 8, 11}, api.OK},
		{1, nil, api.ErrRule},
		{18, nil, api.ErrRule},
		{-1, nil, api.ErrNone},
		{32, nil, api.ErrNone},
		{minInt, nil, api.ErrNone},
		{maxInt, nil, api.ErrNone},
	}
	for _, test := range tests {
		x, e := water.Mark(l, w, test.tile)
		if e != test.want || !slices.Equal(x.Buoys, test.buoys) || e != api.OK && !isZero(x) || e == api.OK && !slices.Equal(x.Kinds, w.Kinds) {
			t.Errorf("Mark %d: %v, %d, want %v, %d", test.tile, x, e, test.buoys, test.want)
		}
	}
	first, e := water.Mark(l, bare(l), 16)
	if e != api.OK || !slices.Equal(first.Buoys, []int{16}) {
		t.Errorf("the first buoy: %v, %d", first, e)
	}
	if none, e := water.Mark(l, first, 16); e != api.OK || len(none.Buoys) > 0 {
		t.Errorf("the last buoy: %v, %d", none, e)
	}
}

// R2: Validate's errors come first, whatever else is wrong.
func TestP6_2WrongWaters(t *testing.T) {
	for _, x := range wrongs() {
		for _, tile := range []int{2, -1} {
			for _, kind := range []int{canal, 7} {
				if y, cost, e := water.Dig(x.l, x.w, tile, kind); e != x.want || cost != 0 || !isZero(y) {
					t.Errorf("%s: Dig %d, %d: %v, %d, %d, want %d", x.name, tile, kind, y, cost, e, x.want)
				}
			}
			if y, cost, e := water.Fill(x.l, x.w, tile); e != x.want || cost != 0 || !isZero(y) {
				t.Errorf("%s: Fill %d: %v, %d, %d, want %d", x.name, tile, y, cost, e, x.want)
			}
			if y, e := water.Mark(x.l, x.w, tile); e != x.want || !isZero(y) {
				t.Errorf("%s: Mark %d: %v, %d, want %d", x.name, tile, y, e, x.want)
			}
		}
	}
}
