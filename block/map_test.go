package block_test

import (
	"math/rand/v2"
	"slices"
	"testing"

	"hinterland/api"
	"hinterland/block"
	"hinterland/rail"
)

// kept are the rails and signals that a Map should keep.
type kept struct {
	r api.Rails
	l []api.Signal
}

// mustNew is New of what is valid.
func mustNew(t *testing.T, r api.Rails, l []api.Signal) *block.Map {
	t.Helper()
	m, e := block.New(r, l)
	if e != api.OK || m == nil {
		t.Fatalf("New: %v, %d", m, e)
	}
	return m
}

// step does one change by chance to a Map and to what it should keep, and
// tells whether it was done.
func (k *kept) step(t *testing.T, chance *rand.Rand, m *block.Map) bool {
	t.Helper()
	tile, piece := chance.IntN(len(k.r.Sets)+2)-1, chance.IntN(8)-1
	to, kind := chance.IntN(4), chance.IntN(7)
	if inside := tile >= 0 && tile < len(k.r.Sets) && piece >= 0 && piece < 6; inside {
		to = joins[piece][chance.IntN(2)]
	}
	r, l := k.r, k.l
	var got, want api.Errno
	switch chance.IntN(5) {
	case 0, 1:
		got = m.Lay(tile, piece)
		r, want = rail.Lay(k.r, tile, piece, false)
	case 2:
		got = m.Lift(tile, piece)
		r, want = rail.Lift(k.r, tile, piece)
		l = slices.DeleteFunc(slices.Clone(k.l), func(s api.Signal) bool { return s.Tile == tile && s.Piece == piece })
	case 3:
		s := api.Signal{Tile: tile, Piece: piece, To: to, Kind: kind}
		got = m.Put(s)
		l, want = block.Put(k.r, k.l, s)
	case 4:
		if len(k.l) > 0 && chance.IntN(2) == 0 {
			s := k.l[chance.IntN(len(k.l))]
			tile, piece, to = s.Tile, s.Piece, s.To
		}
		got = m.Take(tile, piece, to)
		l, want = block.Take(k.r, k.l, tile, piece, to)
	}
	if got != want {
		t.Fatalf("tile %d, piece %d, to %d: %d, want %d", tile, piece, to, got, want)
	}
	if want == api.OK {
		k.r, k.l = r, l
	}
	return want == api.OK
}

// check tells whether a Map tells what the functions do.
func (k *kept) check(t *testing.T, m *block.Map) {
	t.Helper()
	want := mustBlocks(t, k.r, k.l)
	of := map[int]int{}
	for _, part := range want {
		for _, piece := range part.Pieces {
			of[piece] = part.Number
		}
	}
	for tile := range k.r.Sets {
		for piece := range 6 {
			n, e := m.Of(tile, piece)
			number, lies := of[8*tile+piece]
			if n != number || lies != (e == api.OK) || !lies && e != api.ErrNone {
				t.Fatalf("Of %d, %d: %d, %d, want %d", tile, piece, n, e, number)
			}
		}
	}
	if got := m.Blocks(); !sameParts(got, want) {
		t.Fatalf("%v, want %v", got, want)
	}
}

func TestP7_5AnyCalls(t *testing.T) {
	chance := rand.New(rand.NewPCG(7, 5))
	done, refused, cut := 0, 0, 0
	for range 60 {
		r := scattered(chance, 4, 4+chance.IntN(3))
		k := &kept{r, signalled(chance, r, 1+chance.IntN(9), 300, 0, 1, 2, 3, 4, 5)}
		m := mustNew(t, k.r, k.l)
		k.check(t, m)
		for range 120 {
			if k.step(t, chance, m) {
				done++
			} else {
				refused++
			}
			k.check(t, m)
		}
		if want := listed(partOf(k.r, k.l)); !sameParts(m.Blocks(), want) {
			t.Fatalf("%v, want %v", m.Blocks(), want)
		}
		cut += len(k.l)
	}
	if done < 2000 || refused < 1000 || cut < 100 {
		t.Errorf("%d calls were done, %d refused, %d signals left", done, refused, cut)
	}
}

// Many calls may lie between two questions.
func TestP7_5AsksSeldom(t *testing.T) {
	chance := rand.New(rand.NewPCG(7, 55))
	for range 20 {
		k := &kept{r: scattered(chance, 4+chance.IntN(5), 4+chance.IntN(5))}
		m := mustNew(t, k.r, nil)
		for range 8 {
			for range 60 {
				k.step(t, chance, m)
			}
			k.check(t, m)
		}
	}
}

func TestP7_5ByHand(t *testing.T) {
	m := mustNew(t, tracks(5, 4, map[int]int{5: 1, 7: 1}), nil)
	look := func(when string, want ...api.Part) {
		t.Helper()
		if l := m.Blocks(); !sameParts(l, want) {
			t.Errorf("%s: %v, want %v", when, l, want)
		}
	}
	must := func(e api.Errno) {
		t.Helper()
		if e != api.OK {
			t.Errorf("error %d", e)
		}
	}
	look("two pieces", api.Part{Number: 40, Pieces: []int{40}}, api.Part{Number: 56, Pieces: []int{56}})
	must(m.Lay(6, 0))
	look("a third one between", api.Part{Number: 40, Pieces: []int{40, 48, 56}})
	must(m.Put(api.Signal{Tile: 6, Piece: 0, To: 2, Kind: 4}))
	look("a signal", api.Part{Number: 40, Pieces: []int{40}}, api.Part{Number: 48, Pieces: []int{48, 56}})
	must(m.Put(api.Signal{Tile: 6, Piece: 0, To: 0, Kind: 1}))
	look("another one", api.Part{Number: 40, Pieces: []int{40}}, api.Part{Number: 48, Pieces: []int{48}}, api.Part{Number: 56, Pieces: []int{56}})
	must(m.Take(6, 0, 2))
	look("one less", api.Part{Number: 40, Pieces: []int{40, 48}}, api.Part{Number: 56, Pieces: []int{56}})
	must(m.Lift(6, 0))
	look("no piece between", api.Part{Number: 40, Pieces: []int{40}}, api.Part{Number: 56, Pieces: []int{56}})
	must(m.Lay(6, 0))
	look("without its signal", api.Part{Number: 40, Pieces: []int{40, 48, 56}})
	if e := m.Take(6, 0, 0); e != api.ErrNone {
		t.Errorf("a signal that was lifted: %d", e)
	}
	must(m.Lift(5, 0))
	look("the first one away", api.Part{Number: 48, Pieces: []int{48, 56}})
	must(m.Lay(4, 0))
	look("at the border", api.Part{Number: 32, Pieces: []int{32}}, api.Part{Number: 48, Pieces: []int{48, 56}})
}

// Lift takes the signals of the piece alone.
func TestP7_5LiftSignals(t *testing.T) {
	r := tracks(5, 4, map[int]int{6: 1 + 4, 7: 1})
	all := []api.Signal{{Tile: 6, Piece: 0, To: 0}, {Tile: 6, Piece: 0, To: 2}, {Tile: 6, Piece: 2, To: 0}, {Tile: 6, Piece: 2, To: 1}, {Tile: 7, Piece: 0, To: 0}, {Tile: 7, Piece: 0, To: 2}}
	m := mustNew(t, r, all)
	if e := m.Lift(6, 0); e != api.OK {
		t.Fatal(e)
	}
	for i, s := range all {
		want := api.OK
		if i < 2 {
			want = api.ErrNone
		}
		if e := m.Take(s.Tile, s.Piece, s.To); e != want {
			t.Errorf("signal %d: %d, want %d", i, e, want)
		}
	}
}

func TestP7_5Errors(t *testing.T) {
	r := tracks(5, 4, map[int]int{6: 1 + 4, 7: 1})
	k := &kept{r, []api.Signal{{Tile: 6, Piece: 0, To: 2, Kind: 3}}}
	m := mustNew(t, k.r, k.l)
	for i, test := range []struct{ got, want api.Errno }{
		{m.Lay(6, 6), api.ErrArg},
		{m.Lay(-1, -1), api.ErrArg},
		{m.Lay(-1, 0), api.ErrNone},
		{m.Lay(20, 5), api.ErrNone},
		{m.Lay(6, 2), api.ErrTwice},
		{m.Lift(6, 6), api.ErrArg},
		{m.Lift(minInt, minInt), api.ErrArg},
		{m.Lift(maxInt, 0), api.ErrNone},
		{m.Lift(6, 1), api.ErrNone},
		{m.Lift(5, 8), api.ErrArg},
		{m.Put(api.Signal{Tile: 6, Piece: 0, To: 2, Kind: 6}), api.ErrArg},
		{m.Put(api.Signal{Tile: 6, Piece: 1, To: 1, Kind: -1}), api.ErrArg},
		{m.Put(api.Signal{Tile: 6, Piece: 1, To: 1}), api.ErrNone},
		{m.Put(api.Signal{Tile: 6, Piece: 0, To: 3}), api.ErrNone},
		{m.Take(6, 0, 0), api.ErrNone},
		{m.Take(6, 9, 0), api.ErrNone},
	} {
		if test.got != test.want {
			t.Errorf("call %d: %d, want %d", i, test.got, test.want)
		}
	}
	k.check(t, m)
	if e := m.Take(6, 0, 2); e != api.OK {
		t.Errorf("the signal is gone: %d", e)
	}
}

func TestP7_5Limit(t *testing.T) {
	m := mustNew(t, full(32, 32), row(300))
	if e := m.Put(sign(300, plain)); e != api.ErrLimit {
		t.Errorf("one more: %d", e)
	}
	if e := m.Put(sign(299, path)); e != api.OK {
		t.Errorf("another kind: %d", e)
	}
	if e := m.Lift(299, 0); e != api.OK {
		t.Errorf("Lift: %d", e)
	}
	if e := m.Put(sign(300, plain)); e != api.OK {
		t.Errorf("one for another: %d", e)
	}
}

// Wires that are there stay there, so that what is laid and lifted is valid.
func TestP7_5Wired(t *testing.T) {
	r := tracks(5, 4, map[int]int{6: 1})
	r.Wired[6] = true
	m := mustNew(t, r, nil)
	for i, e := range []api.Errno{m.Lay(6, 1), m.Lift(6, 0), m.Lift(6, 1), m.Lay(6, 5), m.Lay(7, 0), m.Put(sign(7, plain))} {
		if e != api.OK {
			t.Errorf("call %d: %d", i, e)
		}
	}
}

func TestP7_5NotMade(t *testing.T) {
	for name, m := range map[string]*block.Map{"nil": nil, "not made by New": {}} {
		for i, e := range []api.Errno{m.Lay(0, 0), m.Lift(0, 0), m.Put(api.Signal{}), m.Take(0, 0, 0), m.Lay(-1, 0)} {
			if e != api.ErrArg {
				t.Errorf("%s, call %d: %d", name, i, e)
			}
		}
		if n, e := m.Of(0, 0); n != 0 || e != api.ErrArg {
			t.Errorf("%s: Of: %d, %d", name, n, e)
		}
		if l := m.Blocks(); len(l) != 0 {
			t.Errorf("%s: Blocks: %v", name, l)
		}
	}
}

// A Map without any piece is one that New made.
func TestP7_5Empty(t *testing.T) {
	m := mustNew(t, tracks(4, 4, nil), nil)
	if l := m.Blocks(); len(l) != 0 {
		t.Errorf("%v", l)
	}
	if _, e := m.Of(0, 0); e != api.ErrNone {
		t.Errorf("Of: %d", e)
	}
	if e := m.Lay(0, 5); e != api.OK {
		t.Errorf("Lay: %d", e)
	}
	if n, e := m.Of(0, 5); n != 5 || e != api.OK {
		t.Errorf("Of: %d, %d", n, e)
	}
	if e := m.Lift(0, 5); e != api.OK || len(m.Blocks()) != 0 {
		t.Errorf("Lift: %d, %v", e, m.Blocks())
	}
	if e := m.Lay(0, 5); e != api.OK {
		t.Errorf("Lay once more: %d", e)
	}
}

// A Map shares no memory with what it was made of, nor with what it told, and
// two Maps share none.
func TestP7_5Memory(t *testing.T) {
	chance := rand.New(rand.NewPCG(7, 555))
	r := scattered(chance, 6, 6)
	l := signalled(chance, r, 5, 300, 0, 1)
	g := give(r, l)
	m, other := mustNew(t, g.r, g.l), mustNew(t, g.r, g.l)
	still := &kept{g.kept, slices.Clone(l)}
	k := &kept{g.kept, slices.Clone(l)}
	for range 200 {
		k.step(t, chance, m)
	}
	g.check(t)
	still.check(t, other)
	for tile := range g.r.Sets {
		g.r.Sets[tile], g.r.Wired[tile] = -1, true
	}
	clear(g.l)
	for _, part := range m.Blocks() {
		clear(part.Pieces)
	}
	k.check(t, m)
	still.check(t, other)
	for range 50 {
		k.step(t, chance, m)
		k.check(t, m)
		still.step(t, chance, other)
		still.check(t, other)
	}
}
