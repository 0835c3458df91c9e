package cargo_test

import (
	"math/rand/v2"
	"slices"
	"testing"

	"hinterland/api"
	"hinterland/cargo"
)

func TestP9_5Example(t *testing.T) {
	c := api.Cargo{Name: "coal", Rate: 16, Fast: 10, Slow: 5}
	if paid, e := cargo.Pay(c, 10, 8, 12); paid != 79 || e != api.OK {
		t.Error(paid, e)
	}
}

func TestP9_5ByHand(t *testing.T) {
	// With 4096 units over one tile Rate 1 pays f.
	for name, c := range map[string]struct{ fast, slow, days, want int }{
		"at once":                     {10, 5, 0, 255},
		"in the last fast day":        {10, 5, 10, 255},
		"a day above Fast":            {10, 5, 11, 254},
		"the last day of Slow":        {10, 5, 15, 250},
		"a day above both":            {10, 5, 16, 248},
		"two days above both":         {10, 5, 17, 246},
		"neither Fast nor Slow":       {0, 0, 1, 253},
		"just above the least":        {0, 0, 111, 33},
		"the least":                   {0, 0, 112, 31},
		"no less than the least":      {0, 0, 113, 31},
		"no less in the last day":     {0, 0, api.MaxAge, 31},
		"slow down to the least":      {0, api.MaxAge, 224, 31},
		"slow, not yet the least":     {0, api.MaxAge, 223, 32},
		"slow in the last day":        {0, api.MaxAge, api.MaxAge, 31},
		"fast in the last day":        {api.MaxAge, 0, api.MaxAge, 255},
		"both greatest":               {api.MaxAge, api.MaxAge, api.MaxAge, 255},
		"both end in the last day":    {200, 55, api.MaxAge, 200},
		"both end ahead of the last":  {200, 54, api.MaxAge, 199},
		"Slow alone, the day above":   {0, 5, 6, 248},
		"Fast alone, each day double": {5, 0, 7, 251},
	} {
		g := api.Cargo{Name: "a", Rate: 1, Fast: c.fast, Slow: c.slow}
		if paid, e := cargo.Pay(g, 4096, 1, c.days); paid != c.want || e != api.OK {
			t.Errorf("%s: %d, %d; want %d", name, paid, e, c.want)
		}
	}
}

func TestP9_5Limits(t *testing.T) {
	for _, c := range []struct{ rate, count, far, days, want int }{
		{0, api.MaxCount, api.MaxCount, 0, 0},
		{api.MaxRate, 0, api.MaxCount, 0, 0},
		{api.MaxRate, api.MaxCount, 0, 0, 0},
		{1, 1, 1, 0, 0},
		{1, 1, 16, 0, 0},
		{1, 1, 17, 0, 1},
		{1, api.MaxCount, api.MaxCount, 0, 62255859375},
		{16, api.MaxCount, api.MaxCount, 0, 996093750000},
		{17, api.MaxCount, api.MaxCount, 0, api.MaxMoney},
		{api.MaxRate, api.MaxCount, api.MaxCount, 0, api.MaxMoney},
		{api.MaxRate, api.MaxCount, api.MaxCount, api.MaxAge, api.MaxMoney},
		{1, api.MaxCount, api.MaxCount, api.MaxAge, 7568359375},
		{api.MaxRate, api.MaxCount, 16062, 0, 999953613281},
		{api.MaxRate, api.MaxCount, 16063, 0, api.MaxMoney},
		{api.MaxRate, api.MaxCount, 16384, 5, api.MaxMoney},
		{api.MaxRate, api.MaxCount, 16383, 5, 999938964843},
		{api.MaxRate, api.MaxCount, 16385, 5, api.MaxMoney},
	} {
		g := api.Cargo{Name: "a", Rate: c.rate, Slow: 5}
		if paid, e := cargo.Pay(g, c.count, c.far, c.days); paid != c.want || e != api.OK {
			t.Errorf("%v: %d, %d", c, paid, e)
		}
	}
}

func TestP9_5Errors(t *testing.T) {
	good := api.Cargo{Name: "coal", Rate: 5}
	for _, c := range []struct{ count, far, days int }{
		{-1, 0, 0}, {api.MaxCount + 1, 0, 0}, {minInt, 0, 0}, {maxInt, 0, 0},
		{0, -1, 0}, {0, api.MaxCount + 1, 0}, {0, minInt, 0}, {0, maxInt, 0},
		{0, 0, -1}, {0, 0, api.MaxAge + 1}, {0, 0, minInt}, {0, 0, maxInt},
		{maxInt, maxInt, maxInt}, {minInt, minInt, minInt},
	} {
		if paid, e := cargo.Pay(good, c.count, c.far, c.days); paid != 0 || e != api.ErrArg {
			t.Errorf("%v: %d, %d", c, paid, e)
		}
	}
	for name, c := range badCargoes() {
		for _, n := range []int{1, -1, maxInt} {
			if paid, e := cargo.Pay(c, n, n, n); paid != 0 || e != api.ErrArg {
				t.Errorf("%s: %d, %d", name, paid, e)
			}
		}
	}
}

func TestP9_5ByTheWords(t *testing.T) {
	chance := rand.New(rand.NewPCG(9, 5))
	for range 20000 {
		c := goods(chance, 1)[0]
		count, far, days := chance.IntN(1<<chance.IntN(20)), chance.IntN(1<<chance.IntN(20)), chance.IntN(api.MaxAge+1)
		if paid, e := cargo.Pay(c, count, far, days); e != api.OK || paid != payOf(c, count, far, days) {
			t.Fatalf("%v, %d, %d, %d: %d, %d; want %d", c, count, far, days, paid, e, payOf(c, count, far, days))
		}
	}
}

// coach are two cargoes, and a load of them. At the tile 57 of a map with 10
// columns 2277, 0, 0 and 506 are paid for its parcels.
func coach() ([]api.Cargo, []api.Parcel) {
	cargoes := []api.Cargo{{Name: "mail", Rate: 1, Fast: 10, Slow: 5}, {Name: "coal", Rate: 2}}
	return cargoes, []api.Parcel{
		{Kind: 0, From: 3, Tile: 12, Age: 12, Count: 4096, Share: 100},
		{Kind: 0, From: 4, Tile: 57, Age: 0, Count: 4096, Share: 5},
		{Kind: 0, From: 5, Tile: 47, Age: 0, Count: 16},
		{Kind: 1, From: 3, Tile: 59, Age: 1, Count: 2048, Share: 7},
	}
}

func TestP9_6DeliverByHand(t *testing.T) {
	cargoes, load := coach()
	if paid, shares, e := cargo.Deliver(cargoes, load, 10, 57); paid != 2783 || shares != 112 || e != api.OK {
		t.Error(paid, shares, e)
	}
	load[1].Share = 2676
	if paid, shares, e := cargo.Deliver(cargoes, load, 10, 57); paid != 2783 || shares != 2783 || e != api.OK {
		t.Error("all of it to the feeders:", paid, shares, e)
	}
	load[1].Share = 2677
	if paid, shares, e := cargo.Deliver(cargoes, load, 10, 57); paid != 2783 || shares != 2783 || e != api.OK {
		t.Error("not more than all to the feeders:", paid, shares, e)
	}
	if paid, shares, e := cargo.Deliver(nil, nil, 10, 57); paid != 0 || shares != 0 || e != api.OK {
		t.Error("nothing:", paid, shares, e)
	}
}

func TestP9_6RoundedApart(t *testing.T) {
	// Each one alone is worth less than 1.
	load := []api.Parcel{{Tile: 1, Age: 0, Count: 16}, {Tile: 1, Age: 1, Count: 16}}
	cargoes := []api.Cargo{{Name: "a", Rate: 1, Fast: 9}}
	if paid, _, e := cargo.Deliver(cargoes, load, 10, 2); paid != 0 || e != api.OK {
		t.Error("Deliver", paid, e)
	}
	if l, grown, e := cargo.Transfer(cargoes, load, 10, 2); !slices.Equal(l, load) || grown != 0 || e != api.OK {
		t.Error("Transfer", l, grown, e)
	}
}

func TestP9_6TransferByHand(t *testing.T) {
	cargoes, load := coach()
	want := slices.Clone(load)
	want[0].Share, want[3].Share = 2277, 506
	for _, c := range []struct{ give, want, grown int }{{100, 2277, 2676}, {2276, 2277, 500}, {2277, 2277, 499}, {2278, 2278, 499}, {api.MaxMoney, api.MaxMoney, 499}} {
		load[0].Share, want[0].Share = c.give, c.want
		if l, grown, e := cargo.Transfer(cargoes, load, 10, 57); !slices.Equal(l, want) || grown != c.grown || e != api.OK {
			t.Errorf("%d: %v, %d, %d; want %v, %d", c.give, l, grown, e, want, c.grown)
		}
	}
	if l, grown, e := cargo.Transfer(cargoes, want, 10, 57); !slices.Equal(l, want) || grown != 0 || e != api.OK {
		t.Error("again:", l, grown, e)
	}
	if l, grown, e := cargo.Transfer(nil, nil, 10, 57); len(l) != 0 || grown != 0 || e != api.OK {
		t.Error("nothing:", l, grown, e)
	}
}

func TestP9_6Far(t *testing.T) {
	// With 4096 units and f 255 each step is paid 255.
	cargoes := []api.Cargo{{Name: "a", Rate: 1}}
	for _, c := range []struct{ w, from, to, far int }{
		{4, 0, 0, 0}, {4, 0, 3, 3}, {4, 3, 0, 3}, {4, 3, 4, 4}, {4, 4, 3, 4}, {4, 0, 4, 1}, {4, 7, 1, 3},
		{32, 0, 31, 31}, {32, 31, 32, 32}, {32, 992, 31, 62}, {32, 1023, 0, 62}, {10, 29, 41, 10}, {11, 29, 41, 2}, {10, 41, 29, 10},
		{4, 0, api.MaxNumber, 250000}, {4, api.MaxNumber, 3, 250003}, {32, 0, api.MaxNumber, 31250}, {7, api.MaxNumber, 0, 142858},
	} {
		load := []api.Parcel{{Tile: c.from, Count: 4096}}
		if paid, shares, e := cargo.Deliver(cargoes, load, c.w, c.to); paid != 255*c.far || shares != 0 || e != api.OK {
			t.Errorf("%v: %d, %d, %d", c, paid, shares, e)
		}
		if l, grown, e := cargo.Transfer(cargoes, load, c.w, c.to); grown != 255*c.far || e != api.OK || len(l) != 1 || l[0].Share != grown {
			t.Errorf("%v: %v, %d, %d", c, l, grown, e)
		}
	}
}

// both asks Deliver and Transfer for an error.
func both(t *testing.T, name string, want api.Errno, cargoes []api.Cargo, load []api.Parcel, w, tile int) {
	t.Helper()
	if paid, shares, e := cargo.Deliver(cargoes, load, w, tile); paid != 0 || shares != 0 || e != want {
		t.Errorf("Deliver, %s: %d, %d, %d; want %d", name, paid, shares, e, want)
	}
	if l, grown, e := cargo.Transfer(cargoes, load, w, tile); l != nil || grown != 0 || e != want {
		t.Errorf("Transfer, %s: %v, %d, %d; want %d", name, l, grown, e, want)
	}
}

// fortune is a load whose parcels of Kind 0 are each paid MaxMoney at the tile
// 0, and its cargoes.
func fortune(n int) ([]api.Cargo, []api.Parcel) {
	cargoes := []api.Cargo{{Name: "gold", Rate: api.MaxRate}, {Name: "sand", Rate: 1}}
	return cargoes, crowd(n, api.MaxNumber-n, api.Parcel{Count: api.MaxCount})
}

func TestP9_6Errors(t *testing.T) {
	cargoes, load := coach()
	_, dear := fortune(2)
	strange := slices.Concat(load, []api.Parcel{{Kind: 2, Count: 1}})
	for name, l := range map[string][]api.Parcel{"the number behind": strange, "the greatest number": {{Kind: api.MaxNumber, Count: 1}}} {
		both(t, name, api.ErrNone, cargoes, l, 10, 57)
		both(t, name+", no tile", api.ErrNone, cargoes, l, 0, -1)
	}
	both(t, "no cargoes", api.ErrNone, nil, load, 10, 57)
	both(t, "one cargo", api.ErrNone, cargoes[:1], load, 10, 57)
	for _, l := range [][]api.Parcel{nil, load, dear} {
		for _, w := range []int{minInt, -4, 0, api.MinSide - 1, api.MaxSide + 1, maxInt} {
			both(t, "columns", api.ErrArg, cargoes, l, w, 0)
		}
		for _, tile := range []int{minInt, -1, api.MaxNumber + 1, maxInt} {
			both(t, "tile", api.ErrArg, cargoes, l, 10, tile)
		}
	}
}

func TestP9_6Limits(t *testing.T) {
	cargoes, load := fortune(1)
	small := api.Parcel{Kind: 1, Count: 17}
	for tile, want := range map[int]api.Errno{0: api.OK, 1: api.ErrLimit} {
		small.Tile = tile
		load := append(slices.Clone(load), small)
		paid, shares, e := cargo.Deliver(cargoes, load, 4, 0)
		if e != want || e == api.OK && paid != api.MaxMoney || e != api.OK && paid != 0 || shares != 0 {
			t.Errorf("Deliver, %d more: %d, %d, %d; want %d", tile, paid, shares, e, want)
		}
		l, grown, e := cargo.Transfer(cargoes, load, 4, 0)
		if e != want || e == api.OK && grown != api.MaxMoney || e != api.OK && (grown != 0 || l != nil) {
			t.Errorf("Transfer, %d more: %v, %d, %d; want %d", tile, l, grown, e, want)
		}
	}
	cargoes, load = fortune(api.MaxParcels)
	both(t, "the most", api.ErrLimit, cargoes, load, 4, 0)
}

func TestP9_6SharesHaveNoLimit(t *testing.T) {
	cargoes, load := fortune(api.MaxParcels)
	for i := range load {
		load[i].Share = api.MaxMoney
	}
	// All together is paid more than MaxMoney, but no Share grows.
	if l, grown, e := cargo.Transfer(cargoes, load, 4, 0); !slices.Equal(l, load) || grown != 0 || e != api.OK {
		t.Error("Transfer", len(l), grown, e)
	}
	load[7].Share = 0
	if l, grown, e := cargo.Transfer(cargoes, load, 4, 0); len(l) != len(load) || grown != api.MaxMoney || e != api.OK {
		t.Error("Transfer, one more", len(l), grown, e)
	}
	for i := range load {
		load[i].Count = 1
	}
	paid, shares, e := cargo.Deliver(cargoes, load, 4, 0)
	if paid == 0 || shares != paid || e != api.OK {
		t.Error("Deliver", paid, shares, e)
	}
}

func TestP9_6ByTheWords(t *testing.T) {
	chance := rand.New(rand.NewPCG(9, 6))
	cut, held := 0, 0
	for range 3000 {
		kinds := 1 + chance.IntN(api.MaxKinds)
		cargoes, load := goods(chance, kinds), draw(chance, 12, kinds)
		w, tile := api.MinSide+chance.IntN(api.MaxSide-api.MinSide+1), chance.IntN(1024)
		promised := chance.IntN(30)
		for i := range load {
			load[i].Tile = chance.IntN(1024)
			load[i].Share *= promised
		}
		load = joinOf(load)
		paid, grown, shares := 0, 0, 0
		want := slices.Clone(load)
		for i, p := range load {
			pay := payOf(cargoes[p.Kind], p.Count, farOf(w, p.Tile, tile), p.Age)
			paid, shares = paid+pay, shares+p.Share
			if pay > p.Share {
				want[i].Share, grown = pay, grown+pay-p.Share
			} else if p.Share > 0 {
				held++
			}
		}
		if shares > paid {
			shares = paid
			cut++
		}
		g := give(load)
		own := slices.Clone(cargoes)
		if n, s, e := cargo.Deliver(cargoes, g.loads[0], w, tile); e != api.OK || n != paid || s != shares {
			t.Fatalf("%v, %v, %d, %d: %d, %d, %d; want %d, %d", cargoes, load, w, tile, n, s, e, paid, shares)
		}
		l, n, e := cargo.Transfer(cargoes, g.loads[0], w, tile)
		if e != api.OK || n != grown || !slices.Equal(l, want) {
			t.Fatalf("%v, %v, %d, %d: %v, %d, %d; want %v, %d", cargoes, load, w, tile, l, n, e, want, grown)
		}
		g.check(t, l)
		if !slices.Equal(cargoes, own) {
			t.Fatal("the cargoes are changed")
		}
	}
	if cut < 50 || held < 500 {
		t.Error("too few shares are cut or held:", cut, held)
	}
}
