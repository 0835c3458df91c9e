package span_test

import (
	"testing"

	"hinterland/api"
	"hinterland/span"
)

func bridge(a, b int) api.Span { return api.Span{Kind: 0, A: a, B: b} }
func tunnel(a, b int) api.Span { return api.Span{Kind: 1, A: a, B: b} }

// street is the same span for trucks.
func street(s api.Span) api.Span {
	s.Use = 1
	return s
}

// Every pair of heads, those included that are no tiles.
func TestP5_1Validate(t *testing.T) {
	seen := map[api.Errno]int{}
	fits := [2]int{}
	for i, l := range lands(t) {
		for a := -1; a <= l.W*l.H; a++ {
			for b := -1; b <= l.W*l.H; b++ {
				for kind := range 2 {
					s := api.Span{Kind: kind, A: a, B: b, Use: (a + b + 2) % 2}
					want := faultOf(l, s)
					if e := span.Validate(l, s); e != want {
						t.Fatalf("land %d, %v, %v: %d, want %d", i, l, s, e, want)
					}
					seen[want]++
					if want == api.OK {
						fits[kind]++
					}
				}
			}
		}
	}
	for _, e := range []api.Errno{api.OK, api.ErrNone, api.ErrFit, api.ErrLimit, api.ErrSlope} {
		if seen[e] == 0 {
			t.Errorf("no span led to %d", e)
		}
	}
	if fits[0] < 2000 || fits[1] < 100 {
		t.Errorf("%d bridges and %d tunnels fit", fits[0], fits[1])
	}
}

func TestP5_1KindAndUse(t *testing.T) {
	l := flat(5, 4, 3)
	for _, use := range []int{0, 1} {
		if e := span.Validate(l, api.Span{Kind: 0, A: 0, B: 3, Use: use}); e != api.OK {
			t.Errorf("use %d: %d", use, e)
		}
	}
	for _, n := range []int{-1, 2, 3, minInt, maxInt} {
		for _, heads := range [][2]int{{0, 3}, {3, 0}, {0, 6}, {0, 1}, {-1, 3}, {0, 20}, {minInt, maxInt}} {
			if e := span.Validate(l, api.Span{Kind: n, A: heads[0], B: heads[1]}); e != api.ErrArg {
				t.Errorf("kind %d, heads %v: %d", n, heads, e)
			}
			if e := span.Validate(l, api.Span{Kind: 1, A: heads[0], B: heads[1], Use: n}); e != api.ErrArg {
				t.Errorf("use %d, heads %v: %d", n, heads, e)
			}
		}
	}
}

func TestP5_1Heads(t *testing.T) {
	tests := []struct {
		a, b int
		want api.Errno
	}{
		{0, 3, api.OK},
		{0, 4, api.OK},
		{15, 19, api.OK},
		{0, 15, api.OK},
		{4, 19, api.OK},
		{-1, 3, api.ErrNone},
		{0, 20, api.ErrNone}, // in the line of tile 0, if the map went on
		{20, 22, api.ErrNone},
		{-5, -3, api.ErrNone},
		{3, -1, api.ErrNone},
		{20, 0, api.ErrNone},
		{minInt, 3, api.ErrNone},
		{0, maxInt, api.ErrNone},
		{maxInt, minInt, api.ErrNone},
		{3, 0, api.ErrFit},
		{19, 4, api.ErrFit},
		{7, 7, api.ErrFit},
		{1, 0, api.ErrFit},
		{0, 6, api.ErrFit},
		{0, 12, api.ErrFit},
		{4, 5, api.ErrFit}, // the end of a row, and the beginning of the next one
		{4, 6, api.ErrFit},
		{3, 6, api.ErrFit},
		{0, 1, api.ErrLimit},
		{0, 5, api.ErrLimit},
		{14, 19, api.ErrLimit},
	}
	for _, test := range tests {
		if e := span.Validate(flat(5, 4, 3), bridge(test.a, test.b)); e != test.want {
			t.Errorf("heads %d, %d: %d, want %d", test.a, test.b, e, test.want)
		}
	}
}

// hill is a land of height 3 with a block 1 above it, whose corners go from x
// to u from the west and from y to v from the north.
func hill(t *testing.T, w, h, x, y, u, v int) api.Land {
	t.Helper()
	l := flat(w, h, 3)
	for i := range l.Corners {
		if i%(w+1) >= x && i%(w+1) <= u && i/(w+1) >= y && i/(w+1) <= v {
			l.Corners[i]++
		}
	}
	return l
}

func TestP5_1Lengths(t *testing.T) {
	for n := range 15 {
		want := api.OK
		if n < 1 || n > api.MaxSpan {
			want = api.ErrLimit
		}
		wide, high := hill(t, 20, 5, 3, 1, 3+n, 3), hill(t, 5, 20, 1, 3, 3, 3+n)
		tests := []struct {
			name string
			l    api.Land
			s    api.Span
		}{
			{"bridge to the east", flat(20, 5, 3), bridge(42, 42+n+1)},
			{"bridge to the south", flat(5, 20, 3), bridge(12, 12+(n+1)*5)},
			{"tunnel to the east", wide, tunnel(42, 42+n+1)},
			{"tunnel to the south", high, tunnel(12, 12+(n+1)*5)},
		}
		for _, test := range tests {
			if e := span.Validate(test.l, test.s); e != want {
				t.Errorf("%s, %d tiles between: %d, want %d", test.name, n, e, want)
			}
		}
		if e := span.Validate(hill(t, 20, 5, 0, 2, 0, 2), bridge(40, 40+n+1)); n > api.MaxSpan && e != api.ErrLimit {
			t.Errorf("too long and too steep: %d", e)
		}
	}
}

func TestP5_1BridgeHeights(t *testing.T) {
	valley := picture(
		"dddddd",
		"ddcddd",
		"dcbcdd",
		"ddcddd",
		"dddddd",
	)
	steps := picture(
		"ddefgg",
		"ddefgg",
		"dcdefg",
		"ccddef",
		"bccdee",
	)
	tests := []struct {
		name string
		l    api.Land
		s    api.Span
		want api.Errno
	}{
		{"flat", flat(5, 4, 3), bridge(0, 2), api.OK},
		{"at height 0", flat(5, 4, 0), bridge(0, 2), api.OK},
		{"at height 15", flat(5, 4, 15), bridge(0, 15), api.OK},
		{"over a valley", valley, bridge(0, 3), api.OK},
		{"over steep tiles", valley, bridge(1, 16), api.ErrSlope}, // its heads are not flat, and low
		{"over a valley to the south", valley, bridge(3, 18), api.OK},
		{"from the slope of a valley", valley, bridge(5, 9), api.ErrSlope},
		{"heads of unlike bases", steps, bridge(0, 4), api.ErrSlope},
		{"below a hill", hill(t, 5, 4, 2, 2, 2, 2), bridge(5, 8), api.ErrSlope},
		{"beside a hill", hill(t, 5, 4, 2, 2, 2, 2), bridge(0, 3), api.OK},
		{"between slopes that go up outwards", picture("eddde", "eddde", "eddde", "eddde", "eddde"), bridge(4, 7), api.OK},
		{"between slopes that go up inwards", picture("deeed", "deeed", "deeed", "deeed", "deeed"), bridge(4, 7), api.ErrSlope},
	}
	for _, test := range tests {
		if e := span.Validate(test.l, test.s); e != test.want {
			t.Errorf("%s: %d, want %d", test.name, e, test.want)
		}
	}
}

// Each of the corners between alone is in the way of a bridge, those of the
// heads too, where they are the neighbours' corners.
func TestP5_1CornersInTheWay(t *testing.T) {
	for x := range 8 {
		for y := range 6 {
			want := api.OK
			if x >= 2 && x <= 5 && y >= 2 && y <= 3 {
				want = api.ErrSlope
			}
			l := hill(t, 7, 5, x, y, x, y)
			if e := span.Validate(l, bridge(15, 19)); e != want {
				t.Errorf("the corner (%d, %d) 1 higher: %d, want %d", x, y, e, want)
			}
			l = turned(l)
			if e := span.Validate(l, bridge(7, 27)); e != want {
				t.Errorf("turned, the corner (%d, %d) 1 higher: %d, want %d", y, x, e, want)
			}
		}
	}
}

// Each corner that lacks opens a tunnel, and so does each corner of the heads
// that is not as it must be.
func TestP5_1CornersOfTunnels(t *testing.T) {
	for x := range 8 {
		for y := range 6 {
			want := api.OK
			if x >= 1 && x <= 6 && y >= 2 && y <= 3 {
				want = api.ErrSlope
			}
			l := hill(t, 7, 5, 2, 0, 5, 5)
			change := -1
			if x < 2 || x > 5 {
				change = 1
			}
			l.Corners[y*8+x] += change
			if e := span.Validate(l, tunnel(15, 19)); e != want {
				t.Errorf("the corner (%d, %d): %d, want %d", x, y, e, want)
			}
			if e := span.Validate(turned(l), tunnel(7, 27)); e != want {
				t.Errorf("turned, the corner (%d, %d): %d, want %d", y, x, e, want)
			}
		}
	}
}

// turned is the land whose east is the other one's south, and the other way
// round.
func turned(l api.Land) api.Land {
	t := api.Land{W: l.H, H: l.W}
	for x := range l.W + 1 {
		for y := range l.H + 1 {
			t.Corners = append(t.Corners, l.Corners[y*(l.W+1)+x])
		}
	}
	return t
}

func TestP5_1SteepHeads(t *testing.T) {
	steepWest := picture("fedddd", "eddddd", "dddddd", "dddddd", "dddddd")
	steepEast := picture("dddddd", "dddddd", "dddddd", "ddddde", "ddddef")
	tests := []struct {
		name string
		l    api.Land
		s    api.Span
		want api.Errno
	}{
		{"A, to the east", steepWest, bridge(0, 3), api.ErrSlope},
		{"A, to the south", steepWest, bridge(0, 15), api.ErrSlope},
		{"B, from the west", steepEast, bridge(16, 19), api.ErrSlope},
		{"B, from the north", steepEast, bridge(4, 19), api.ErrSlope},
		{"A is not steep", picture("eddddd", "dddddd", "dddddd", "dddddd", "dddddd"), bridge(0, 3), api.OK},
		{"B is not steep", picture("dddddd", "dddddd", "dddddd", "dddddd", "ddddde"), bridge(4, 19), api.OK},
	}
	for _, test := range tests {
		if e := span.Validate(test.l, test.s); e != test.want {
			t.Errorf("%s: %d, want %d", test.name, e, test.want)
		}
	}
}

// R2: whatever else is wrong, a wrong land comes first.
func TestP5_1WrongLandsComeFirst(t *testing.T) {
	for name, test := range wrongLands() {
		for _, s := range []api.Span{{}, bridge(0, 2), tunnel(3, 0), {Kind: 2, A: -1, B: maxInt, Use: minInt}} {
			if e := span.Validate(test.l, s); e != test.want {
				t.Errorf("Validate, %s: %d", name, e)
			}
			if cost, e := span.Cost(test.l, s); e != test.want || cost != 0 {
				t.Errorf("Cost, %s: %d, %d", name, cost, e)
			}
			for _, list := range [][]api.Span{nil, {bridge(0, 2)}, {s}, {s, s}, make([]api.Span, api.MaxSpans)} {
				checkWrongLand(t, name, test, list, s)
			}
		}
	}
}

func checkWrongLand(t *testing.T, name string, test wrongLand, list []api.Span, s api.Span) {
	t.Helper()
	if x, cost, e := span.Add(test.l, list, s); e != test.want || cost != 0 || len(x) > 0 {
		t.Errorf("Add, %s: %v, %d, %d", name, x, cost, e)
	}
	for _, tile := range []int{-1, 0, 2, maxInt} {
		if x, gain, e := span.Drop(test.l, list, tile); e != test.want || gain != 0 || len(x) > 0 {
			t.Errorf("Drop, %s: %v, %d, %d", name, x, gain, e)
		}
		if x, e := span.Over(test.l, list, tile); e != test.want || len(x) > 0 {
			t.Errorf("Over, %s: %v, %d", name, x, e)
		}
		for _, side := range []int{-1, 0, 4} {
			if to, n, e := span.Cross(test.l, list, tile, side); e != test.want || to != 0 || n != 0 {
				t.Errorf("Cross, %s: %d, %d, %d", name, to, n, e)
			}
		}
	}
	if x, e := span.Held(test.l, list); e != test.want || len(x) > 0 {
		t.Errorf("Held, %s: %v, %d", name, x, e)
	}
}

func TestP5_2Cost(t *testing.T) {
	bridges := []int{1: 1250, 3000, 5250, 8000, 11250, 15000, 19250, 24000, 29250, 35000}
	tunnels := []int{1: 2250, 5000, 8250, 12000, 16250, 21000, 26250, 32000, 38250, 45000}
	for n := 1; n <= api.MaxSpan; n++ {
		wide, high := hill(t, 20, 5, 3, 1, 3+n, 3), hill(t, 5, 20, 1, 3, 3, 3+n)
		tests := []struct {
			name string
			l    api.Land
			s    api.Span
			want int
		}{
			{"bridge to the east", flat(20, 5, 3), bridge(42, 42+n+1), bridges[n]},
			{"bridge to the south", flat(5, 20, 3), bridge(12, 12+(n+1)*5), bridges[n]},
			{"tunnel to the east", wide, tunnel(42, 42+n+1), tunnels[n]},
			{"tunnel to the south", high, tunnel(12, 12+(n+1)*5), tunnels[n]},
		}
		for _, test := range tests {
			for _, s := range []api.Span{test.s, street(test.s)} {
				if cost, e := span.Cost(test.l, s); e != api.OK || cost != test.want {
					t.Errorf("%s, %d tiles between: %d, %d, want %d", test.name, n, cost, e, test.want)
				}
			}
		}
	}
}

// The example of the chapter.
func TestP5_2Example(t *testing.T) {
	if cost, e := span.Cost(flat(4, 4, 3), bridge(0, 3)); e != api.OK || cost != 3*api.CostSpan {
		t.Errorf("%d, %d", cost, e)
	}
}

func TestP5_2CostErrors(t *testing.T) {
	l := flat(20, 4, 3)
	tests := []struct {
		s    api.Span
		want api.Errno
	}{
		{api.Span{Kind: 2, A: 0, B: 3}, api.ErrArg},
		{api.Span{Kind: 0, A: 0, B: 3, Use: -1}, api.ErrArg},
		{bridge(-1, 3), api.ErrNone},
		{bridge(0, 80), api.ErrNone},
		{bridge(3, 0), api.ErrFit},
		{bridge(0, 21), api.ErrFit},
		{bridge(0, 1), api.ErrLimit},
		{bridge(0, 12), api.ErrLimit},
		{tunnel(0, 3), api.ErrSlope},
	}
	for _, test := range tests {
		if cost, e := span.Cost(l, test.s); e != test.want || cost != 0 {
			t.Errorf("%v: %d, %d, want %d", test.s, cost, e, test.want)
		}
	}
}
