package span_test

import (
	"math/rand/v2"
	"slices"
	"testing"

	"hinterland/api"
	"hinterland/span"
)

// roomy is a copy of a list with room behind it, in which a call that changes
// its argument leaves a trace.
func roomy(spans []api.Span) []api.Span {
	return append(make([]api.Span, 0, len(spans)+8), spans...)
}

// whole is a list with the room behind it.
func whole(spans []api.Span) []api.Span {
	return spans[:cap(spans)]
}

// scribble writes over all that a list holds.
func scribble(spans []api.Span) {
	for i := range spans {
		spans[i] = api.Span{Kind: -7, A: -7, B: -7, Use: -7}
	}
}

// inserted is the list with a span in its place.
func inserted(spans []api.Span, s api.Span) []api.Span {
	list := append(slices.Clone(spans), s)
	slices.SortFunc(list, ascending)
	return list
}

func ascending(a, b api.Span) int {
	return slices.Compare([]int{a.Kind, a.A, a.B, a.Use}, []int{b.Kind, b.A, b.B, b.Use})
}

func checkAdd(t *testing.T, l api.Land, spans []api.Span, s api.Span) bool {
	t.Helper()
	list := roomy(spans)
	kept := slices.Clone(whole(list))
	x, cost, e := span.Add(l, list, s)
	ok := !takenOf(l, spans, s)
	if ok && (e != api.OK || cost != costOf(l, s) || !slices.Equal(x, inserted(spans, s))) {
		t.Fatalf("%v: Add %v to %v: %v, %d, %d", l, s, spans, x, cost, e)
	}
	if !ok && (e != api.ErrTaken || cost != 0 || len(x) > 0) {
		t.Fatalf("%v: Add %v to %v: %v, %d, %d, want ErrTaken", l, s, spans, x, cost, e)
	}
	scribble(whole(x))
	if !slices.Equal(whole(list), kept) {
		t.Fatalf("Add %v to %v: the list was changed, or is shared", s, spans)
	}
	return ok
}

// stream is a land through which a valley leads from the north to the south.
func stream() api.Land {
	return picture("eeddee", "eeddee", "eeddee", "eeddee", "eeddee", "eeddee", "eeddee")
}

// Each span of a land is added to each other one.
func TestP5_3AddToOne(t *testing.T) {
	count := [2][2]int{} // how often by kind of the two
	taken := 0
	for _, l := range []api.Land{flat(5, 4, 3), hills(t, 3, 6, 7), hills(t, 4, 7, 6), grown(t, 5, 6, 5, 3), hill(t, 7, 8, 2, 2, 5, 6), stream()} {
		all := spansOf(l)
		for _, s := range all {
			for _, other := range all {
				if !checkAdd(t, l, []api.Span{other}, s) {
					taken++
				}
				count[s.Kind][other.Kind]++
			}
		}
	}
	if taken < 1000 || count[0][0] < 1000 || count[1][1] < 10 || count[0][1] < 100 {
		t.Errorf("%d are taken, of %v", taken, count)
	}
}

func TestP5_3AddToTunnels(t *testing.T) {
	l := pyramid()
	var all []api.Span
	for _, s := range spansOf(l) {
		if s.Kind == 1 && s.Use == 0 {
			all = append(all, s)
		}
	}
	count := map[bool]int{}
	for _, s := range all {
		for _, other := range all {
			count[checkAdd(t, l, []api.Span{other}, street(s))]++
		}
	}
	if len(all) < 20 || count[true] < 100 || count[false] < 50 {
		t.Errorf("of %d tunnels: %v", len(all), count)
	}
}

// Lists that grow by Add: those of 6 times 6 tiles and more are taken soon.
func TestP5_3AddOneBehindTheOther(t *testing.T) {
	longest := 0
	for seed := range uint64(30) {
		chance := rand.New(rand.NewPCG(seed, 53))
		l := pyramid()
		if seed%2 == 0 {
			l = hills(t, seed, 14, 13)
		}
		all := spansOf(l)
		var list []api.Span
		for range 60 {
			s := all[chance.IntN(len(all))]
			if checkAdd(t, l, list, s) {
				list = inserted(list, s)
			}
		}
		longest = max(longest, len(list))
	}
	if longest < 5 {
		t.Errorf("the longest list has %d spans", longest)
	}
}

func TestP5_3Order(t *testing.T) {
	l := pyramid()
	order := []api.Span{
		bridge(13, 15), street(bridge(16, 18)), bridge(19, 21), street(bridge(39, 42)), bridge(97, 99),
		tunnel(5, 125), tunnel(27, 87), street(tunnel(29, 89)),
	}
	for i, s := range order {
		rest := slices.Delete(slices.Clone(order), i, i+1)
		x, cost, e := span.Add(l, rest, s)
		if e != api.OK || cost != costOf(l, s) || !slices.Equal(x, order) {
			t.Errorf("Add %v: %v, %d, %d", s, x, cost, e)
		}
		x, gain, e := span.Drop(l, order, s.B)
		if e != api.OK || gain != costOf(l, s)/4 || !slices.Equal(x, rest) {
			t.Errorf("Drop %v: %v, %d, %d", s, x, gain, e)
		}
	}
}

// Tiles are those of a land of 8 times 8, flat where no tunnel is.
func TestP5_3Taken(t *testing.T) {
	even := flat(8, 8, 3)
	tests := []struct {
		name     string
		other, s api.Span
		want     api.Errno
	}{
		{"the same", bridge(18, 21), bridge(18, 21), api.ErrTaken},
		{"the same for trucks", bridge(18, 21), street(bridge(18, 21)), api.ErrTaken},
		{"from the same head", bridge(18, 21), bridge(18, 34), api.ErrTaken},
		{"from the other head", bridge(18, 21), bridge(21, 37), api.ErrTaken},
		{"to the first head", bridge(18, 21), bridge(2, 18), api.ErrTaken},
		{"to the other head", bridge(18, 21), bridge(5, 21), api.ErrTaken},
		{"from below", bridge(18, 21), bridge(19, 35), api.ErrTaken},
		{"to below", bridge(18, 21), bridge(4, 20), api.ErrTaken},
		{"over the first head", bridge(18, 21), bridge(10, 26), api.ErrTaken},
		{"over the other head", bridge(18, 21), bridge(13, 29), api.ErrTaken},
		{"over the other one", bridge(18, 21), bridge(11, 27), api.ErrTaken},
		{"over the other one in its line", bridge(18, 21), bridge(17, 22), api.ErrTaken},
		{"half over it", bridge(18, 21), bridge(20, 23), api.ErrTaken},
		{"within it", bridge(16, 21), bridge(17, 19), api.ErrTaken},
		{"beside it", bridge(18, 21), bridge(26, 29), api.OK},
		{"behind it", bridge(18, 20), bridge(21, 23), api.OK},
		{"ahead of it", bridge(19, 21), bridge(16, 18), api.OK},
		{"towards it", bridge(18, 21), bridge(27, 43), api.OK},
		{"away from it", bridge(34, 37), bridge(11, 27), api.OK},
	}
	for _, test := range tests {
		x, cost, e := span.Add(even, []api.Span{test.other}, test.s)
		if e != test.want || test.want != api.OK && (cost != 0 || len(x) > 0) || test.want == api.OK && len(x) != 2 {
			t.Errorf("%s: %v, %d, %d, want %d", test.name, x, cost, e, test.want)
		}
	}
}

// A plateau with a hole at each end of a tunnel, so that a bridge can lead over
// its head, and a valley in which bridges lie above others.
func TestP5_3TakenByKind(t *testing.T) {
	plateau := flat(10, 9, 4)
	for _, corner := range [][2]int{{3, 4}, {3, 5}, {9, 4}, {9, 5}} {
		plateau.Corners[corner[1]*11+corner[0]] = 3
	}
	below, over := tunnel(43, 48), bridge(23, 63)
	valley := stream()
	low, high := bridge(7, 17), bridge(10, 14)
	tests := []struct {
		name     string
		l        api.Land
		other, s api.Span
		want     api.Errno
	}{
		{"a bridge over the head of a tunnel", plateau, below, over, api.OK},
		{"a tunnel below a bridge", plateau, over, below, api.OK},
		{"a bridge above a tunnel", plateau, below, bridge(35, 55), api.OK},
		{"a tunnel below a bridge that crosses it", plateau, bridge(35, 55), below, api.OK},
		{"a bridge from above a tunnel", plateau, below, bridge(45, 65), api.OK},
		{"a tunnel below the head of a bridge", plateau, bridge(45, 65), below, api.OK},
		{"a bridge high over another one", valley, low, high, api.ErrTaken},
		{"a bridge deep below another one", valley, high, low, api.ErrTaken},
		{"a bridge high over the head of another one", valley, bridge(12, 22), high, api.ErrTaken},
		{"a bridge from below another one", valley, high, bridge(12, 22), api.ErrTaken},
		{"a bridge beside a high one", valley, high, bridge(17, 27), api.OK},
		{"tunnels of one base", pyramid(), tunnel(60, 71), tunnel(5, 125), api.ErrTaken},
		{"tunnels of one base the other way", pyramid(), tunnel(5, 125), tunnel(60, 71), api.ErrTaken},
		{"tunnels of one upper base", pyramid(), tunnel(62, 70), tunnel(29, 89), api.ErrTaken},
		{"tunnels of unlike bases", pyramid(), tunnel(60, 71), tunnel(29, 89), api.OK},
		{"tunnels of unlike bases the other way", pyramid(), tunnel(29, 89), tunnel(60, 71), api.OK},
		{"tunnels in one line", pyramid(), tunnel(60, 71), tunnel(62, 70), api.OK},
		{"tunnels in one line the other way", pyramid(), tunnel(62, 70), tunnel(60, 71), api.OK},
		{"tunnels side by side", pyramid(), tunnel(60, 71), tunnel(48, 59), api.OK},
	}
	for _, test := range tests {
		if f := span.Validate(test.l, test.other); f != api.OK {
			t.Errorf("%s: the other one: %d", test.name, f)
		}
		x, cost, e := span.Add(test.l, []api.Span{test.other}, test.s)
		if e != test.want || test.want != api.OK && (cost != 0 || len(x) > 0) || test.want == api.OK && len(x) != 2 {
			t.Errorf("%s: %v, %d, %d, want %d", test.name, x, cost, e, test.want)
		}
	}
}

// A bridge and a tunnel can share a head if they lead away from each other.
func TestP5_3TakenByAHeadOfTheOtherKind(t *testing.T) {
	l := hill(t, 12, 5, 6, 0, 8, 5)
	below := tunnel(29, 32)
	for _, s := range []api.Span{bridge(26, 29), street(bridge(32, 35))} {
		if x, cost, e := span.Add(l, []api.Span{below}, s); e != api.ErrTaken || cost != 0 || len(x) > 0 {
			t.Errorf("%v: %v, %d, %d", s, x, cost, e)
		}
		if x, cost, e := span.Add(l, []api.Span{s}, below); e != api.ErrTaken || cost != 0 || len(x) > 0 {
			t.Errorf("behind %v: %v, %d, %d", s, x, cost, e)
		}
	}
}

// rows is a land with n bridges that do not touch one another.
func rows(n int) (api.Land, []api.Span) {
	var list []api.Span
	for i := range n {
		list = append(list, bridge(i/10*32+i%10*3, i/10*32+i%10*3+2))
	}
	return flat(32, 8, 9), list
}

func TestP5_3Limit(t *testing.T) {
	for _, n := range []int{0, 1, api.MaxSpans - 1, api.MaxSpans, api.MaxSpans + 1, 60} {
		l, list := rows(n)
		x, cost, e := span.Add(l, list, bridge(192, 195))
		if n < api.MaxSpans && (e != api.OK || cost != 3000 || len(x) != n+1) {
			t.Errorf("behind %d spans: %v, %d, %d", n, x, cost, e)
		}
		if n >= api.MaxSpans && (e != api.ErrLimit || cost != 0 || len(x) > 0) {
			t.Errorf("behind %d spans: %v, %d, %d, want ErrLimit", n, x, cost, e)
		}
		if n == 0 {
			continue
		}
		if x, cost, e := span.Add(l, list, bridge(1, 65)); e != api.ErrTaken || cost != 0 || len(x) > 0 {
			t.Errorf("taken behind %d spans: %v, %d, %d", n, x, cost, e)
		}
		if x, gain, e := span.Drop(l, list, list[n-1].A); e != api.OK || gain != 312 || len(x) != n-1 {
			t.Errorf("Drop of %d spans: %v, %d, %d", n, x, gain, e)
		}
	}
}

// R1: the list's error comes first, then those of the span.
func TestP5_3AddErrors(t *testing.T) {
	l, full := rows(api.MaxSpans)
	tests := []struct {
		name string
		list []api.Span
		s    api.Span
		want api.Errno
	}{
		{"a wrong list, no such kind", []api.Span{bridge(0, 1)}, api.Span{Kind: 2, A: 0, B: 2}, api.ErrArg},
		{"a wrong list, no such tile", []api.Span{bridge(0, 1)}, bridge(-1, 2), api.ErrArg},
		{"a wrong list, no line", []api.Span{bridge(0, 1)}, bridge(0, 33), api.ErrArg},
		{"a wrong list, too short", []api.Span{bridge(0, 1)}, bridge(4, 5), api.ErrArg},
		{"a wrong list, a tunnel through nothing", []api.Span{bridge(0, 1)}, tunnel(4, 7), api.ErrArg},
		{"a wrong list, taken", []api.Span{bridge(0, 2), bridge(4, 5)}, bridge(0, 2), api.ErrArg},
		{"a wrong list, full", append(slices.Clone(full), full[39]), bridge(192, 195), api.ErrArg},
		{"no such kind", full, api.Span{Kind: -1, A: 0, B: 2}, api.ErrArg},
		{"no such use", full, api.Span{A: 0, B: 2, Use: 2}, api.ErrArg},
		{"no such tile", full, bridge(0, 256), api.ErrNone},
		{"no line", full, bridge(0, 33), api.ErrFit},
		{"back", full, bridge(2, 0), api.ErrFit},
		{"too short", full, bridge(0, 1), api.ErrLimit},
		{"too long", nil, bridge(0, 12), api.ErrLimit},
		{"a tunnel through nothing", full, tunnel(0, 2), api.ErrSlope},
	}
	for _, test := range tests {
		if x, cost, e := span.Add(l, test.list, test.s); e != test.want || cost != 0 || len(x) > 0 {
			t.Errorf("%s: %v, %d, %d, want %d", test.name, x, cost, e, test.want)
		}
	}
}

func TestP5_3Drop(t *testing.T) {
	for i, l := range lands(t) {
		spans := sample(t, l, uint64(i), 9)
		for tile := -1; tile <= l.W*l.H; tile++ {
			list := roomy(spans)
			kept := slices.Clone(whole(list))
			x, gain, e := span.Drop(l, list, tile)
			place := slices.IndexFunc(spans, func(s api.Span) bool { return s.A == tile || s.B == tile })
			if place < 0 && (e != api.ErrNone || gain != 0 || len(x) > 0) {
				t.Fatalf("land %d: Drop %d of %v: %v, %d, %d, want ErrNone", i, tile, spans, x, gain, e)
			}
			if place >= 0 && (e != api.OK || gain != costOf(l, spans[place])/4 || !slices.Equal(x, without(spans, place))) {
				t.Fatalf("land %d: Drop %d of %v: %v, %d, %d", i, tile, spans, x, gain, e)
			}
			scribble(whole(x))
			if !slices.Equal(whole(list), kept) {
				t.Fatalf("land %d: Drop %d: the list was changed, or is shared", i, tile)
			}
		}
	}
}

func without(spans []api.Span, place int) []api.Span {
	var list []api.Span
	for i, s := range spans {
		if i != place {
			list = append(list, s)
		}
	}
	return list
}

func TestP5_3DropByHand(t *testing.T) {
	l := hill(t, 12, 5, 6, 0, 8, 5)
	list := []api.Span{bridge(0, 2), bridge(0, 36), street(bridge(0, 36)), bridge(2, 4), tunnel(29, 32), tunnel(41, 44)}
	tests := []struct {
		tile, place, gain int
		want              api.Errno
	}{
		{0, 0, 312, api.OK}, // the first one of three
		{2, 0, 312, api.OK}, // as B ahead of as A
		{36, 1, 750, api.OK},
		{4, 3, 312, api.OK},
		{29, 4, 1250, api.OK},
		{44, 5, 1250, api.OK},
		{1, 0, 0, api.ErrNone}, // it is crossed
		{30, 0, 0, api.ErrNone},
		{59, 0, 0, api.ErrNone},
		{-1, 0, 0, api.ErrNone},
		{60, 0, 0, api.ErrNone},
		{minInt, 0, 0, api.ErrNone},
		{maxInt, 0, 0, api.ErrNone},
	}
	for _, test := range tests {
		x, gain, e := span.Drop(l, list, test.tile)
		if e != test.want || gain != test.gain {
			t.Errorf("Drop %d: %d, %d", test.tile, gain, e)
		}
		if e == api.OK && !slices.Equal(x, without(list, test.place)) || e != api.OK && len(x) > 0 {
			t.Errorf("Drop %d: %v", test.tile, x)
		}
	}
	if x, gain, e := span.Drop(l, []api.Span{bridge(0, 2)}, 2); e != api.OK || gain != 312 || len(x) > 0 {
		t.Errorf("the last one: %v, %d, %d", x, gain, e)
	}
}

// What is added and dropped again leaves the list as it was, and the land too.
func TestP5_3ThereAndBack(t *testing.T) {
	l, list := rows(12)
	defer func() {
		if !slices.Equal(l.Corners, flat(32, 8, 9).Corners) {
			t.Error("the land was changed")
		}
	}()
	for _, s := range []api.Span{bridge(192, 195), street(bridge(30, 126)), bridge(31, 95)} {
		x, cost, e := span.Add(l, list, s)
		if e != api.OK {
			t.Fatalf("Add %v: %d", s, e)
		}
		y, gain, e := span.Drop(l, x, s.A)
		if e != api.OK || gain != cost/4 || !slices.Equal(y, list) {
			t.Errorf("Drop %v: %v, %d, %d", s, y, gain, e)
		}
	}
}

func TestP5_3WrongLists(t *testing.T) {
	l := hill(t, 12, 5, 6, 0, 8, 5)
	good := []api.Span{bridge(0, 2), bridge(0, 36), street(bridge(0, 36)), bridge(2, 4), tunnel(29, 32)}
	if e := listError(t, l, good); e != api.OK {
		t.Errorf("a right list: %d", e)
	}
	for name, list := range map[string][]api.Span{
		"one twice":           {bridge(0, 2), bridge(0, 2)},
		"the last one twice":  append(slices.Clone(good), tunnel(29, 32)),
		"kinds descend":       {tunnel(29, 32), bridge(36, 38)},
		"A descends":          {bridge(24, 26), bridge(0, 36)},
		"B descends":          {bridge(0, 36), bridge(0, 2)},
		"B descends, for use": {bridge(0, 36), street(bridge(0, 2))},
		"Use descends":        {street(bridge(0, 2)), bridge(0, 2)},
		"the last descends":   {bridge(0, 2), bridge(2, 4), bridge(0, 36)},
	} {
		if e := listError(t, l, list); e != api.ErrArg {
			t.Errorf("%s: %d", name, e)
		}
	}
	for name, s := range map[string]api.Span{
		"kind of 2":              {Kind: 2, A: 0, B: 2},
		"kind of -1":             {Kind: -1, A: 0, B: 2},
		"least kind":             {Kind: minInt, A: minInt, B: minInt, Use: minInt},
		"greatest kind":          {Kind: maxInt, A: maxInt, B: maxInt, Use: maxInt},
		"use of 2":               {A: 1, B: 3, Use: 2},
		"use of -1":              {A: 1, B: 3, Use: -1},
		"A is no tile":           {A: -1, B: 3},
		"B is no tile":           {A: 24, B: 60},
		"heads are exchanged":    {A: 2, B: 0},
		"one head":               {A: 1, B: 1},
		"no line":                {A: 1, B: 14},
		"too short":              {A: 1, B: 2},
		"too long":               {A: 0, B: 12},
		"a bridge into a hill":   {A: 1, B: 9},
		"a tunnel in the plain":  {Kind: 1, A: 1, B: 4},
		"a tunnel out of a hill": {Kind: 1, A: 29, B: 31},
	} {
		for _, list := range [][]api.Span{{s}, inserted(good, s), inserted(good[:2], s)} {
			if e := listError(t, l, list); e != api.ErrArg {
				t.Errorf("%s: %v: %d", name, list, e)
			}
		}
	}
}

// listError is what all functions say of a list, if they are asked for what is
// there. That nothing else comes with an error is tested too.
func listError(t *testing.T, l api.Land, list []api.Span) api.Errno {
	t.Helper()
	kept := slices.Clone(list)
	x, cost, e := span.Add(l, list, bridge(14, 16))
	y, gain, f := span.Drop(l, list, 0)
	z, g := span.Over(l, list, 1)
	to, n, h := span.Cross(l, list, 0, 0)
	held, k := span.Held(l, list)
	if e != f || e != g || e != h || e != k {
		t.Errorf("%v: %d, %d, %d, %d, %d", list, e, f, g, h, k)
	}
	if e != api.OK && (len(x)+len(y)+len(z)+len(held) > 0 || cost != 0 || gain != 0 || to != 0 || n != 0) {
		t.Errorf("%v: %v, %d, %v, %d, %v, %d, %d, %v", list, x, cost, y, gain, z, to, n, held)
	}
	if !slices.Equal(list, kept) {
		t.Errorf("%v was changed", kept)
	}
	for _, side := range []int{-1, 4} {
		for _, tile := range []int{-1, 60} {
			if _, _, h := span.Cross(l, list, tile, side); h != api.ErrArg {
				t.Errorf("%v: Cross %d, %d: %d", list, tile, side, h)
			}
			if _, g := span.Over(l, list, tile); e != api.OK && g != e {
				t.Errorf("%v: Over %d: %d", list, tile, g)
			}
			if _, _, f := span.Drop(l, list, tile); e != api.OK && f != e {
				t.Errorf("%v: Drop %d: %d", list, tile, f)
			}
		}
	}
	return e
}

// R4: no list and an empty one are the same.
func TestP5_3EmptyLists(t *testing.T) {
	l := flat(5, 4, 3)
	for _, list := range [][]api.Span{nil, {}} {
		if x, cost, e := span.Add(l, list, bridge(0, 2)); e != api.OK || cost != 1250 || !slices.Equal(x, []api.Span{bridge(0, 2)}) {
			t.Errorf("Add: %v, %d, %d", x, cost, e)
		}
		if x, gain, e := span.Drop(l, list, 0); e != api.ErrNone || gain != 0 || len(x) > 0 {
			t.Errorf("Drop: %v, %d, %d", x, gain, e)
		}
		if x, e := span.Over(l, list, 0); e != api.OK || len(x) > 0 {
			t.Errorf("Over: %v, %d", x, e)
		}
		if to, n, e := span.Cross(l, list, 0, 0); e != api.ErrNone || to != 0 || n != 0 {
			t.Errorf("Cross: %d, %d, %d", to, n, e)
		}
		if x, e := span.Held(l, list); e != api.OK || len(x) > 0 {
			t.Errorf("Held: %v, %d", x, e)
		}
	}
}
