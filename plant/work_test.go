package plant_test

import (
	"math/rand/v2"
	"testing"

	"hinterland/api"
	"hinterland/plant"
)

// counts are the lists of a plant in words.
type counts struct{ stock, rest, made, moved []int }

func with(p api.Plant, c counts) api.Plant {
	for i, list := range [][]int{c.stock, c.rest, c.made, c.moved} {
		if list != nil {
			*lists(&p)[i] = list
		}
	}
	return own(p)
}

func TestP10_2ByHand(t *testing.T) {
	for name, c := range map[string]struct{ p, want api.Plant }{
		"a new mine": {
			fresh(mine, 16),
			with(fresh(mine, 16), counts{stock: []int{10}, made: []int{10}}),
		},
		"rounded down": {
			fresh(forest, 3),
			with(fresh(forest, 3), counts{stock: []int{1, 18}, made: []int{1, 18}}),
		},
		"too little for one": {
			fresh(forest, 1),
			with(fresh(forest, 1), counts{stock: []int{0, 6}, made: []int{0, 6}}),
		},
		"the greatest level": {
			with(fresh(forest, 64), counts{stock: []int{5, 6}, rest: []int{1, 2}, made: []int{7, 8}, moved: []int{3, 4}}),
			with(fresh(forest, 64), counts{stock: []int{33, 406}, rest: []int{1, 2}, made: []int{35, 408}, moved: []int{3, 4}}),
		},
		"just room for it": {
			with(fresh(mine, 16), counts{stock: []int{999990}}),
			with(fresh(mine, 16), counts{stock: []int{1000000}, made: []int{10}}),
		},
		"room for less": {
			with(fresh(mine, 16), counts{stock: []int{999997}, made: []int{5}}),
			with(fresh(mine, 16), counts{stock: []int{1000000}, made: []int{8}}),
		},
		"no room": {
			with(fresh(mine, 16), counts{stock: []int{1000000}, made: []int{5}}),
			with(fresh(mine, 16), counts{stock: []int{1000000}, made: []int{5}}),
		},
		"room for one make alone": {
			with(fresh(forest, 16), counts{stock: []int{1000000, 0}}),
			with(fresh(forest, 16), counts{stock: []int{1000000, 100}, made: []int{0, 100}}),
		},
		"Made is full": {
			with(fresh(mine, 16), counts{stock: []int{3}, made: []int{999995}}),
			with(fresh(mine, 16), counts{stock: []int{13}, made: []int{1000000}}),
		},
		"a works": {
			with(fresh(mill, 16), counts{stock: []int{3, 4}}),
			with(fresh(mill, 16), counts{stock: []int{3, 4}}),
		},
		"a source that makes nothing": {fresh(hole, 16), fresh(hole, 16)},
		"not open": {
			change(with(fresh(mine, 16), counts{stock: []int{3}}), func(p *api.Plant) { p.Open = false }),
			change(with(fresh(mine, 16), counts{stock: []int{3}}), func(p *api.Plant) { p.Open = false }),
		},
		"other fields": {
			change(fresh(mine, 32), func(p *api.Plant) { p.Got, p.Idle, p.Tile = 3, 4, 9 }),
			change(with(fresh(mine, 32), counts{stock: []int{20}, made: []int{20}}), func(p *api.Plant) { p.Got, p.Idle, p.Tile = 3, 4, 9 }),
		},
	} {
		if p, e := plant.Work(land(), c.p); e != api.OK || !same(p, c.want) {
			t.Errorf("%s: %v, %d; want %v", name, p, e, c.want)
		}
	}
	kinds := []api.PlantKind{{Name: "quarry", Makes: []api.Make{{Cargo: 0, Amount: api.MaxAmount}}}}
	p, e := plant.Work(kinds, fresh(mine, api.MaxLevel))
	if want := with(fresh(mine, api.MaxLevel), counts{stock: []int{4000}, made: []int{4000}}); e != api.OK || !same(p, want) {
		t.Error("the greatest Amount:", p, e)
	}
}

func TestP10_2ByTheWords(t *testing.T) {
	chance := rand.New(rand.NewPCG(10, 2))
	for range 5000 {
		p := drawPlant(chance)
		g := give(land(), p)
		x, e := plant.Work(g.kinds, g.p)
		if want := workOf(land(), p); e != api.OK || !same(x, want) {
			t.Fatalf("%v: %v, %d; want %v", p, x, e, want)
		}
		if e := plant.Validate(land(), x); e != api.OK {
			t.Fatalf("%v is no plant: %d", x, e)
		}
		g.check(t, x.Stock, x.Rest, x.Made, x.Moved)
	}
}

func TestP10_3Example(t *testing.T) {
	p, n, e := plant.Bring([]api.PlantKind{{Name: "mill", Takes: []int{1}, Makes: []api.Make{{Cargo: 4, Amount: 4}}}}, fresh(mine, 16), 1, 3)
	want := with(fresh(mine, 16), counts{stock: []int{1}, rest: []int{4}, made: []int{1}})
	want.Got = 3
	if e != api.OK || n != 3 || !same(p, want) {
		t.Error(p, n, e)
	}
}

func TestP10_3BringByHand(t *testing.T) {
	got := func(n int, p api.Plant) api.Plant {
		p.Got = n
		return p
	}
	shut := func(p api.Plant) api.Plant {
		p.Open = false
		return p
	}
	begun := with(fresh(mill, 16), counts{stock: []int{9, 9}, rest: []int{5, 7}, made: []int{2, 3}, moved: []int{1, 1}})
	for name, c := range map[string]struct {
		p        api.Plant
		cargo, n int
		want     api.Plant
		took     int
	}{
		"nothing":           {begun, 1, 0, begun, 0},
		"a Rest":            {begun, 1, 1, got(1, with(begun, counts{stock: []int{10, 11}, rest: []int{1, 0}, made: []int{3, 5}})), 1},
		"the other cargo":   {got(7, begun), 2, 2, got(9, with(begun, counts{stock: []int{10, 12}, rest: []int{5, 1}, made: []int{3, 6}})), 2},
		"a cargo it makes":  {begun, 4, 5, begun, 0},
		"another cargo":     {begun, 0, 5, begun, 0},
		"not open":          {shut(begun), 1, 5, shut(begun), 0},
		"a source":          {fresh(mine, 16), 1, 5, fresh(mine, 16), 0},
		"nothing made":      {fresh(tip, 16), 5, 5, got(5, fresh(tip, 16)), 5},
		"the level":         {fresh(mill, 1), 1, 2, got(2, with(fresh(mill, 1), counts{stock: []int{1, 2}, rest: []int{0, 2}, made: []int{1, 2}})), 2},
		"what it makes too": {fresh(wharf, 16), 3, 9, got(9, with(fresh(wharf, 16), counts{stock: []int{9, 1}, rest: []int{0, 1}, made: []int{9, 1}})), 9},
		"the greatest n":    {fresh(wharf, 16), 0, 1000000, got(1000000, with(fresh(wharf, 16), counts{stock: []int{1000000, 125000}, made: []int{1000000, 125000}})), 1000000},
		"a Stock that is full": {
			with(begun, counts{stock: []int{1000000, 999999}}), 1, 8,
			got(8, with(begun, counts{stock: []int{1000000, 1000000}, made: []int{6, 12}})), 8,
		},
		"a Made that is full": {
			with(begun, counts{made: []int{1000000, 999999}}), 1, 8,
			got(8, with(begun, counts{stock: []int{13, 18}, made: []int{1000000, 1000000}})), 8,
		},
		"a Got that is full": {got(999998, fresh(tip, 16)), 1, 3, got(1000000, fresh(tip, 16)), 3},
	} {
		if p, took, e := plant.Bring(land(), c.p, c.cargo, c.n); e != api.OK || took != c.took || !same(p, c.want) {
			t.Errorf("%s: %v, %d, %d; want %v, %d", name, p, took, e, c.want, c.took)
		}
	}
	kinds := []api.PlantKind{{Name: "mill", Takes: []int{1}, Makes: []api.Make{{Cargo: 4, Amount: api.MaxAmount}}}}
	p, took, e := plant.Bring(kinds, with(fresh(mine, 16), counts{rest: []int{7}}), 1, api.MaxCount)
	want := got(api.MaxCount, with(fresh(mine, 16), counts{stock: []int{1000000}, rest: []int{7}, made: []int{1000000}}))
	if e != api.OK || took != api.MaxCount || !same(p, want) {
		t.Error("the greatest of all:", p, took, e)
	}
}

func TestP10_3HaulByHand(t *testing.T) {
	full := with(fresh(forest, 16), counts{stock: []int{20, 30}, rest: []int{1, 2}, made: []int{3, 4}, moved: []int{5, 6}})
	shut := change(full, func(p *api.Plant) { p.Open = false })
	for name, c := range map[string]struct {
		p        api.Plant
		cargo, n int
		want     api.Plant
		took     int
	}{
		"some":          {full, 2, 8, with(full, counts{stock: []int{12, 30}, moved: []int{13, 6}}), 8},
		"all":           {full, 3, 30, with(full, counts{stock: []int{20, 0}, moved: []int{5, 36}}), 30},
		"more than all": {full, 3, 31, with(full, counts{stock: []int{20, 0}, moved: []int{5, 36}}), 30},
		"the most":      {full, 2, 1000000, with(full, counts{stock: []int{0, 30}, moved: []int{25, 6}}), 20},
		"nothing":       {full, 3, 0, full, 0},
		"another cargo": {full, 4, 5, full, 0},
		"no Stock":      {fresh(forest, 16), 2, 5, fresh(forest, 16), 0},
		"not open":      {shut, 3, 7, with(shut, counts{stock: []int{20, 23}, moved: []int{5, 13}}), 7},
		"a works": {
			with(fresh(mill, 16), counts{stock: []int{4, 9}}), 5, 3,
			with(fresh(mill, 16), counts{stock: []int{4, 6}, moved: []int{0, 3}}), 3,
		},
		"what a works takes": {with(fresh(mill, 16), counts{stock: []int{4, 9}}), 1, 3, with(fresh(mill, 16), counts{stock: []int{4, 9}}), 0},
		"no makes":           {fresh(tip, 16), 1, 3, fresh(tip, 16), 0},
		"a Moved that is full": {
			with(full, counts{moved: []int{999999, 6}}), 2, 5,
			with(full, counts{stock: []int{15, 30}, moved: []int{1000000, 6}}), 5,
		},
	} {
		if p, took, e := plant.Haul(land(), c.p, c.cargo, c.n); e != api.OK || took != c.took || !same(p, c.want) {
			t.Errorf("%s: %v, %d, %d; want %v, %d", name, p, took, e, c.want, c.took)
		}
	}
}

func TestP10_3Errors(t *testing.T) {
	for _, c := range [][2]int{
		{-1, 0}, {api.MaxKinds, 0}, {minInt, 0}, {maxInt, 0},
		{1, -1}, {1, api.MaxCount + 1}, {1, minInt}, {1, maxInt},
		{-1, -1}, {maxInt, maxInt},
	} {
		for kind := range land() {
			for _, open := range []bool{true, false} {
				p := fresh(kind, 16)
				p.Open = open
				if x, n, e := plant.Bring(land(), p, c[0], c[1]); e != api.ErrArg || n != 0 || !nothing(x) {
					t.Errorf("Bring to kind %d of %v: %v, %d, %d", kind, c, x, n, e)
				}
				if x, n, e := plant.Haul(land(), p, c[0], c[1]); e != api.ErrArg || n != 0 || !nothing(x) {
					t.Errorf("Haul from kind %d of %v: %v, %d, %d", kind, c, x, n, e)
				}
			}
		}
	}
	for _, c := range [][2]int{{0, 0}, {api.MaxKinds - 1, api.MaxCount}} {
		if _, _, e := plant.Bring(land(), fresh(wharf, 16), c[0], c[1]); e != api.OK {
			t.Errorf("Bring of %v: %d", c, e)
		}
		if _, _, e := plant.Haul(land(), fresh(wharf, 16), c[0], c[1]); e != api.OK {
			t.Errorf("Haul of %v: %d", c, e)
		}
	}
}

// units is a function that brings or hauls.
type units func(kinds []api.PlantKind, p api.Plant, cargo, n int) (api.Plant, int, api.Errno)

// compare asks for units of a plant, compares them with a model's, and tells
// how many they are.
func compare(t *testing.T, f units, model func([]api.PlantKind, api.Plant, int, int) (api.Plant, int), p api.Plant, cargo, n int) int {
	t.Helper()
	g := give(land(), p)
	x, took, e := f(g.kinds, g.p, cargo, n)
	if want, many := model(land(), p, cargo, n); e != api.OK || took != many || !same(x, want) {
		t.Fatalf("%v, %d of %d: %v, %d, %d; want %v, %d", p, n, cargo, x, took, e, want, many)
	}
	if e := plant.Validate(land(), x); e != api.OK {
		t.Fatalf("%v is no plant: %d", x, e)
	}
	g.check(t, x.Stock, x.Rest, x.Made, x.Moved)
	return took
}

func TestP10_3ByTheWords(t *testing.T) {
	chance := rand.New(rand.NewPCG(10, 3))
	brought, hauled := 0, 0
	for range 5000 {
		p, cargo, n := drawPlant(chance), chance.IntN(api.MaxKinds), chance.IntN(1<<chance.IntN(12))
		if chance.IntN(2) == 0 {
			cargo = chance.IntN(6)
		}
		brought += min(compare(t, plant.Bring, bringOf, p, cargo, n), 1)
		hauled += min(compare(t, plant.Haul, haulOf, p, cargo, n), 1)
	}
	if brought < 300 || hauled < 300 {
		t.Error("too few took units:", brought, hauled)
	}
}

// What is hauled was made or was there: no unit comes of itself (S5).
func TestP10_3NoUnitIsMadeOnTheWay(t *testing.T) {
	chance := rand.New(rand.NewPCG(10, 5))
	for kind := range land() {
		p := fresh(kind, 16)
		taken := make([]int, len(p.Stock))
		for range 300 {
			p, _ = plant.Work(land(), p)
			p, _, _ = plant.Bring(land(), p, chance.IntN(6), chance.IntN(50))
			for i, m := range land()[kind].Makes {
				var n int
				p, n, _ = plant.Haul(land(), p, m.Cargo, chance.IntN(40))
				taken[i] += n
			}
		}
		for i := range taken {
			if p.Made[i] != taken[i]+p.Stock[i] || p.Moved[i] != taken[i] {
				t.Errorf("kind %d: %v, taken %v", kind, p, taken)
			}
		}
	}
}
