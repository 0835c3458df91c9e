package block_test

import (
	"math/rand/v2"
	"slices"
	"testing"

	"hinterland/api"
	"hinterland/block"
)

// calls are all functions with rails and signals, told which error each one
// returned, and whether it returned anything else. What follows the signals
// is wrong in each call.
func calls(r api.Rails, l []api.Signal) map[string]func() (api.Errno, bool) {
	off := api.Spot{Tile: -1, Piece: 9, To: 7}
	return map[string]func() (api.Errno, bool){
		"Validate": func() (api.Errno, bool) { return block.Validate(r, l), false },
		"Put": func() (api.Errno, bool) {
			l, e := block.Put(r, l, api.Signal{Tile: -1, Kind: 6})
			return e, l != nil
		},
		"Take":   func() (api.Errno, bool) { l, e := block.Take(r, l, -1, 9, 7); return e, l != nil },
		"Blocks": func() (api.Errno, bool) { l, e := block.Blocks(r, l); return e, l != nil },
		"Of":     func() (api.Errno, bool) { n, e := block.Of(r, l, 7, 6); return e, n != 0 },
		"Beyond": func() (api.Errno, bool) { l, e := block.Beyond(r, l, off); return e, l != nil },
		"Shows":  func() (api.Errno, bool) { l, e := block.Shows(r, l, []int{0}); return e, l != nil },
		"May":    func() (api.Errno, bool) { b, e := block.May(r, l, off, off); return e, b },
		"New":    func() (api.Errno, bool) { m, e := block.New(r, l); return e, m != nil },
	}
}

// refused asks all functions for an error.
func refused(t *testing.T, name string, r api.Rails, l []api.Signal, want api.Errno) {
	t.Helper()
	for f, call := range calls(r, l) {
		if e, more := call(); e != want || more {
			t.Errorf("%s, %s: %d, a result: %t; want %d", f, name, e, more, want)
		}
	}
}

// row are n signals, one to the east on each tile from 0 on, of full rails.
func row(n int) []api.Signal {
	var l []api.Signal
	for tile := range n {
		l = append(l, sign(tile, tile%6))
	}
	return l
}

func TestP7_1RailsFirst(t *testing.T) {
	change := func(f func(*api.Rails)) api.Rails {
		r := line()
		f(&r)
		return r
	}
	bad := []api.Signal{{Tile: -1}, {Tile: -1, Kind: 9}}
	for name, r := range map[string]api.Rails{
		"no rails":      {},
		"narrow":        change(func(r *api.Rails) { r.W = 3 }),
		"a set too few": change(func(r *api.Rails) { r.Sets = r.Sets[1:] }),
		"a set of 64":   change(func(r *api.Rails) { r.Sets[3] = 64 }),
		"a wire alone":  change(func(r *api.Rails) { r.Wired[9] = true }),
		"greatest":      {W: maxInt, H: maxInt, Sets: []int{1}, Wired: []bool{true}},
	} {
		refused(t, name, r, nil, api.ErrArg)
		refused(t, name, r, []api.Signal{sign(2, plain)}, api.ErrArg)
		refused(t, name, r, bad, api.ErrArg)
	}
}

func TestP7_1Validate(t *testing.T) {
	r := tracks(5, 4, map[int]int{6: 1 + 4, 7: 1, 8: 63, 19: 2})
	all := []api.Signal{
		{Tile: 6, Piece: 0, To: 0, Kind: 5}, {Tile: 6, Piece: 0, To: 2, Kind: 0}, {Tile: 6, Piece: 2, To: 0, Kind: 1}, {Tile: 6, Piece: 2, To: 1, Kind: 2},
		{Tile: 7, Piece: 0, To: 2, Kind: 3}, {Tile: 8, Piece: 5, To: 0, Kind: 4}, {Tile: 8, Piece: 5, To: 3, Kind: 4}, {Tile: 19, Piece: 1, To: 3, Kind: 4},
	}
	for i, l := range [][]api.Signal{nil, {}, all, all[3:4]} {
		if e := block.Validate(r, l); e != api.OK {
			t.Errorf("list %d: %d", i, e)
		}
	}
	for _, kind := range []int{-1, 6, minInt, maxInt} {
		for i := range all {
			l := slices.Clone(all)
			l[i].Kind = kind
			refused(t, "a kind", r, l, api.ErrArg)
		}
	}
	for _, two := range [][]api.Signal{
		{all[0], all[0]},
		{all[0], {Tile: 6, Piece: 0, To: 0, Kind: 4}}, // two of unlike kinds at one place
		{{Tile: 6, Piece: 0, To: 0, Kind: 4}, all[0]},
		{all[1], all[0]},
		{all[2], all[1]},
		{all[4], all[2]},
		{all[0], all[2], all[1]},
		{all[7], all[0]},
	} {
		refused(t, "an order", r, two, api.ErrArg)
	}
}

func TestP7_1ValidateNone(t *testing.T) {
	r := tracks(5, 4, map[int]int{6: 1 + 4, 7: 1, 8: 63, 19: 2})
	off := []api.Signal{
		{Tile: minInt, Piece: 0, To: 0}, {Tile: -1, Piece: 0, To: 0}, {Tile: 0, Piece: 0, To: 0}, {Tile: 0, Piece: 14, To: 0}, {Tile: 6, Piece: 1, To: 1},
		{Tile: 6, Piece: 3, To: 1}, {Tile: 6, Piece: minInt, To: 0}, {Tile: 6, Piece: -1, To: 0}, {Tile: 6, Piece: 6, To: 0}, {Tile: 6, Piece: 8, To: 0},
		{Tile: 8, Piece: 6, To: 0}, {Tile: 8, Piece: maxInt, To: maxInt}, {Tile: 20, Piece: 0, To: 0}, {Tile: maxInt, Piece: 0, To: 0},
		{Tile: 6, Piece: 0, To: 1}, {Tile: 6, Piece: 0, To: 3}, {Tile: 6, Piece: 0, To: -1}, {Tile: 6, Piece: 0, To: 4}, {Tile: 6, Piece: 0, To: -2},
		{Tile: 6, Piece: 2, To: 2}, {Tile: 6, Piece: 2, To: 3}, {Tile: 6, Piece: 0, To: minInt}, {Tile: 6, Piece: 0, To: maxInt},
	}
	good := api.Signal{Tile: 7, Piece: 0, To: 0, Kind: 1}
	for _, s := range off {
		refused(t, "alone", r, []api.Signal{s}, api.ErrNone)
		l := []api.Signal{good, s}
		if s.Tile < 7 {
			l = []api.Signal{s, good}
		}
		refused(t, "with a good one", r, l, api.ErrNone)
		l[1].Kind = 6
		refused(t, "ahead of a kind", r, l, api.ErrArg)
		l[1].Kind = 0
		refused(t, "ahead of an order", r, append(l, l[0]), api.ErrArg)
	}
}

func TestP7_1ValidateMost(t *testing.T) {
	r := full(32, 32)
	if e := block.Validate(r, row(300)); e != api.OK {
		t.Errorf("300 signals: %d", e)
	}
	refused(t, "301 signals", r, row(301), api.ErrArg)
	refused(t, "301 signals that lie nowhere", tracks(32, 32, nil), row(301), api.ErrArg)
}

func TestP7_1Put(t *testing.T) {
	r := tracks(5, 4, map[int]int{6: 1 + 4, 7: 1})
	in := []api.Signal{
		{Tile: 6, Piece: 0, To: 2, Kind: 5}, {Tile: 7, Piece: 0, To: 0, Kind: 1}, {Tile: 6, Piece: 2, To: 0, Kind: 0}, {Tile: 6, Piece: 0, To: 0, Kind: 2},
		{Tile: 7, Piece: 0, To: 2, Kind: 3}, {Tile: 6, Piece: 2, To: 1, Kind: 4}, {Tile: 6, Piece: 0, To: 2, Kind: 0}, {Tile: 7, Piece: 0, To: 2, Kind: 3},
	}
	want := []api.Signal{
		{Tile: 6, Piece: 0, To: 0, Kind: 2}, {Tile: 6, Piece: 0, To: 2, Kind: 0}, {Tile: 6, Piece: 2, To: 0, Kind: 0}, {Tile: 6, Piece: 2, To: 1, Kind: 4},
		{Tile: 7, Piece: 0, To: 0, Kind: 1}, {Tile: 7, Piece: 0, To: 2, Kind: 3},
	}
	var l []api.Signal
	for i, s := range in {
		g := give(r, l)
		more, e := block.Put(g.r, g.l, s)
		if e != api.OK || kindOf(more, api.Spot{Tile: s.Tile, Piece: s.Piece, To: s.To}) != s.Kind {
			t.Fatalf("signal %d: %v, %d", i, more, e)
		}
		g.check(t)
		l = slices.Clone(more)
		for j := range more { // the result shares no memory with the argument
			more[j].Kind = 9
		}
		g.check(t)
	}
	if !slices.Equal(l, want) {
		t.Errorf("%v", l)
	}
}

func TestP7_1PutErrors(t *testing.T) {
	r := full(32, 32)
	r.Sets[500] = 1
	most := row(300)
	for i, test := range []struct {
		l    []api.Signal
		s    api.Signal
		want api.Errno
	}{
		{most[:299], sign(300, plain), api.OK},
		{most, sign(300, plain), api.ErrLimit},
		{most, sign(7, entry), api.OK},
		{most, api.Signal{Tile: 7, Piece: 0, To: west}, api.ErrLimit},
		{most, sign(7, 6), api.ErrArg},
		{most, sign(300, -1), api.ErrArg},
		{nil, sign(7, minInt), api.ErrArg},
		{nil, sign(7, maxInt), api.ErrArg},
		{nil, sign(-1, 6), api.ErrArg},
		{nil, sign(-1, 0), api.ErrNone},
		{nil, sign(1024, 0), api.ErrNone},
		{most, sign(1024, 0), api.ErrNone},
		{most, api.Signal{Tile: 500, Piece: 1, To: south}, api.ErrNone},
		{most, api.Signal{Tile: 500, Piece: 0, To: south}, api.ErrNone},
		{nil, api.Signal{Tile: 500, Piece: 6, To: east}, api.ErrNone},
		{nil, api.Signal{Tile: 500, Piece: -1, To: east}, api.ErrNone},
		{nil, api.Signal{Tile: 500, Piece: 0, To: 4}, api.ErrNone},
	} {
		g := give(r, test.l)
		l, e := block.Put(g.r, g.l, test.s)
		if e != test.want || e != api.OK && l != nil {
			t.Errorf("test %d: %d signals, %d, want %d", i, len(l), e, test.want)
		}
		g.check(t)
		m, e := block.New(r, test.l)
		if e != api.OK || m.Put(test.s) != test.want {
			t.Errorf("test %d: Map.Put is not %d", i, test.want)
		}
	}
}

func TestP7_1Take(t *testing.T) {
	r := tracks(5, 4, map[int]int{6: 1 + 4, 7: 1})
	all := []api.Signal{
		{Tile: 6, Piece: 0, To: 0, Kind: 2}, {Tile: 6, Piece: 0, To: 2, Kind: 0}, {Tile: 6, Piece: 2, To: 0, Kind: 0}, {Tile: 6, Piece: 2, To: 1, Kind: 4}, {Tile: 7, Piece: 0, To: 2, Kind: 3},
	}
	for i, s := range all {
		g := give(r, all)
		l, e := block.Take(g.r, g.l, s.Tile, s.Piece, s.To)
		want := append(slices.Clone(all[:i]), all[i+1:]...)
		if e != api.OK || !slices.Equal(l, want) {
			t.Errorf("signal %d: %v, %d", i, l, e)
		}
		g.check(t)
		for j := range l {
			l[j].Kind = 9
		}
		g.check(t)
	}
	if l, e := block.Take(r, all[:1], 6, 0, 0); e != api.OK || len(l) != 0 {
		t.Errorf("the only one: %v, %d", l, e)
	}
	for _, s := range [][3]int{{7, 0, 0}, {6, 0, 1}, {6, 1, 0}, {6, 2, 3}, {5, 0, 0}, {8, 0, 0}, {-1, 0, 0}, {6, 6, 0}, {6, -1, 0}, {6, 0, -1}, {6, 0, 4}, {minInt, minInt, minInt}, {maxInt, maxInt, maxInt}} {
		g := give(r, all)
		if l, e := block.Take(g.r, g.l, s[0], s[1], s[2]); e != api.ErrNone || l != nil {
			t.Errorf("%v: %v, %d", s, l, e)
		}
		g.check(t)
	}
}

// Lists that are put together and taken apart by chance are those of a map.
func TestP7_1PutAndTake(t *testing.T) {
	chance := rand.New(rand.NewPCG(7, 1))
	r := scattered(chance, 5, 5)
	spots := spotsOf(r)
	var l []api.Signal
	kept := map[api.Spot]int{}
	for step := range 2000 {
		s := spots[chance.IntN(len(spots))]
		kind, there := kept[s]
		var e api.Errno
		want := api.OK
		if before := l; chance.IntN(2) == 0 {
			kind = chance.IntN(6)
			l, e = block.Put(r, l, api.Signal{Tile: s.Tile, Piece: s.Piece, To: s.To, Kind: kind})
			kept[s] = kind
		} else if l, e = block.Take(r, l, s.Tile, s.Piece, s.To); there {
			delete(kept, s)
		} else {
			l, want = before, api.ErrNone
		}
		if e != want || len(l) != len(kept) || block.Validate(r, l) != api.OK {
			t.Fatalf("step %d: %d, want %d; %d signals, want %d", step, e, want, len(l), len(kept))
		}
		for s, kind := range kept {
			if kindOf(l, s) != kind {
				t.Fatalf("step %d: %v is of kind %d, want %d", step, s, kindOf(l, s), kind)
			}
		}
	}
}
