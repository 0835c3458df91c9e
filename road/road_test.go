package road_test

import (
	"math"
	"math/rand/v2"
	"slices"
	"testing"

	"hinterland/api"
	"hinterland/road"
)

const (
	minInt = math.MinInt
	maxInt = math.MaxInt
)

// empty are streets without arms.
func empty(w, h int) api.Streets {
	return api.Streets{W: w, H: h, Arms: make([]int, w*h), Ways: make([]int, w*h)}
}

// streets are streets of 5 times 4 tiles with some arms, none of one way.
func streets(armsOf map[int]int) api.Streets {
	t := empty(5, 4)
	for tile, arms := range armsOf {
		t.Arms[tile] = arms
	}
	return t
}

// oneWay are the streets with the Ways of some tiles.
func oneWay(t api.Streets, wayOf map[int]int) api.Streets {
	for tile, way := range wayOf {
		t.Ways[tile] = way
	}
	return t
}

// scattered are streets with arms by chance: of 10 tiles four are straight, of
// which two thirds are one way streets, and four have all arms.
func scattered(seed uint64, w, h int) api.Streets {
	chance := rand.New(rand.NewPCG(seed, 4))
	t := empty(w, h)
	for tile := range t.Arms {
		t.Arms[tile] = [10]int{5, 10, 5, 10, 15, 15, 15, 15, chance.IntN(16), chance.IntN(16)}[chance.IntN(10)]
		if t.Arms[tile] == 5 || t.Arms[tile] == 10 {
			t.Ways[tile] = chance.IntN(3)
		}
	}
	return t
}

func copied(t api.Streets) api.Streets {
	return api.Streets{W: t.W, H: t.H, Arms: slices.Clone(t.Arms), Ways: slices.Clone(t.Ways)}
}

func same(a, b api.Streets) bool {
	return a.W == b.W && a.H == b.H && slices.Equal(a.Arms, b.Arms) && slices.Equal(a.Ways, b.Ways)
}

func isNone(t api.Streets) bool {
	return t.W == 0 && t.H == 0 && t.Arms == nil && t.Ways == nil
}

type wrong struct {
	t    api.Streets
	want api.Errno
}

// wrongStreets are streets that Validate refuses.
func wrongStreets() map[string]wrong {
	change := func(f func(*api.Streets)) api.Streets {
		t := streets(map[int]int{7: 15, 8: 5, 9: 10})
		f(&t)
		return t
	}
	list := map[string]wrong{
		"one way without arms":   {change(func(t *api.Streets) { t.Ways[0] = 1 }), api.ErrRule},
		"one way on a crossroad": {change(func(t *api.Streets) { t.Ways[7] = 2 }), api.ErrRule},
		"one way on the last":    {change(func(t *api.Streets) { t.Arms[19], t.Ways[19] = 3, 2 }), api.ErrRule},
	}
	for name, t := range map[string]api.Streets{
		"nothing":           {},
		"narrow":            empty(3, 4),
		"low":               empty(4, 3),
		"wide":              empty(33, 4),
		"high":              empty(4, 33),
		"below 0":           change(func(t *api.Streets) { t.W, t.H = -5, -4 }),
		"without arms":      change(func(t *api.Streets) { t.Arms = nil }),
		"without ways":      change(func(t *api.Streets) { t.Ways = nil }),
		"arms less":         change(func(t *api.Streets) { t.Arms = t.Arms[:19] }),
		"arms more":         change(func(t *api.Streets) { t.Arms = append(t.Arms, 0) }),
		"ways less":         change(func(t *api.Streets) { t.Ways = t.Ways[:19] }),
		"ways more":         change(func(t *api.Streets) { t.Ways = append(t.Ways, 0) }),
		"turned":            change(func(t *api.Streets) { t.W, t.H = 5, 5 }),
		"arms of -1":        change(func(t *api.Streets) { t.Arms[0] = -1 }),
		"arms of 16":        change(func(t *api.Streets) { t.Arms[19] = 16 }),
		"least arms":        change(func(t *api.Streets) { t.Arms[3] = minInt }),
		"greatest arms":     change(func(t *api.Streets) { t.Arms[3] = maxInt }),
		"ways of -1":        change(func(t *api.Streets) { t.Ways[8] = -1 }),
		"ways of 3":         change(func(t *api.Streets) { t.Ways[8] = 3 }),
		"least ways":        change(func(t *api.Streets) { t.Ways[0] = minInt }),
		"greatest ways":     change(func(t *api.Streets) { t.Ways[19] = maxInt }),
		"arms ahead of all": change(func(t *api.Streets) { t.Ways[0], t.Arms[19] = 1, 16 }),
		"ways ahead of all": change(func(t *api.Streets) { t.Ways[0], t.Ways[19] = 1, 3 }),
		"no product":        {W: 1 << 32, H: 1 << 32},
		"greatest":          {W: maxInt, H: maxInt, Arms: []int{1}, Ways: []int{0}},
		"least":             {W: minInt, H: minInt},
	} {
		list[name] = wrong{t, api.ErrArg}
	}
	return list
}

func TestP4_1Validate(t *testing.T) {
	for name, test := range wrongStreets() {
		if e := road.Validate(test.t); e != test.want {
			t.Errorf("%s: %d, want %d", name, e, test.want)
		}
	}
	for i, s := range []api.Streets{empty(4, 4), empty(32, 4), empty(4, 32), empty(32, 32), scattered(1, 9, 7)} {
		if e := road.Validate(s); e != api.OK {
			t.Errorf("streets %d: %d", i, e)
		}
	}
	for _, tile := range []int{0, 7, 19} {
		for arms := range 16 {
			for way := range 3 {
				want := api.OK
				if way > 0 && arms != 5 && arms != 10 {
					want = api.ErrRule
				}
				s := oneWay(streets(map[int]int{tile: arms}), map[int]int{tile: way})
				if e := road.Validate(s); e != want {
					t.Errorf("tile %d, arms %d, way %d: %d, want %d", tile, arms, way, e, want)
				}
			}
		}
	}
}

// R2: whatever else is wrong, wrong streets come first.
func TestP4_1WrongStreetsComeFirst(t *testing.T) {
	for name, test := range wrongStreets() {
		s, want := test.t, test.want
		for _, tile := range []int{-1, 0, 7, maxInt} {
			for _, n := range []int{-2, 0, 1, 16} {
				if x, cost, e := road.Pave(s, tile, n); e != want || cost != 0 || !isNone(x) {
					t.Errorf("Pave, %s: %v, %d, %d", name, x, cost, e)
				}
				if x, gain, e := road.Tear(s, tile, n); e != want || gain != 0 || !isNone(x) {
					t.Errorf("Tear, %s: %v, %d, %d", name, x, gain, e)
				}
				if x, e := road.Turn(s, tile, n); e != want || !isNone(x) {
					t.Errorf("Turn, %s: %v, %d", name, x, e)
				}
				if l, e := road.Next(s, tile, n); e != want || l != nil {
					t.Errorf("Next, %s: %v, %d", name, l, e)
				}
				if ok, e := road.Joined(s, tile, n); e != want || ok {
					t.Errorf("Joined, %s: %t, %d", name, ok, e)
				}
				for _, turns := range [][]int{nil, {0}, make([]int, api.MaxList+1)} {
					if l, e := road.Go(s, tile, n, turns); e != want || l != nil {
						t.Errorf("Go, %s: %v, %d", name, l, e)
					}
				}
			}
		}
		if l, e := road.Parts(s); e != want || l != nil {
			t.Errorf("Parts, %s: %v, %d", name, l, e)
		}
	}
}

func TestP4_1Fits(t *testing.T) {
	for arms := range 16 {
		for set := range 64 {
			want := arms == 0 || set == 0
			switch [2]int{arms, set} {
			case [2]int{10, 1}, [2]int{5, 2}:
				want = true
			}
			if ok, e := road.Fits(arms, set); ok != want || e != api.OK {
				t.Errorf("arms %d, set %d: %t, %d", arms, set, ok, e)
			}
		}
	}
	for _, test := range [][2]int{
		{-1, 0}, {16, 0}, {minInt, 0}, {maxInt, 0}, {16, 1}, {26, 1}, {21, 2},
		{0, -1}, {0, 64}, {0, minInt}, {0, maxInt}, {10, 65}, {5, 66}, {-1, -1}, {16, 64},
	} {
		if ok, e := road.Fits(test[0], test[1]); ok || e != api.ErrArg {
			t.Errorf("arms %d, set %d: %t, %d", test[0], test[1], ok, e)
		}
	}
}

// sidesOf are the sides to which arms lead, by the worth of each one.
func sidesOf(arms int) []int {
	var list []int
	for side, worth := range []int{1, 2, 4, 8} {
		if arms/worth%2 == 1 {
			list = append(list, side)
		}
	}
	return list
}

func armsOf(sides []int) int {
	arms := 0
	for _, side := range sides {
		arms += []int{1, 2, 4, 8}[side]
	}
	return arms
}

// changed tells what becomes of a tile's arms, when they are paved or torn,
// and how many of them are changed.
func changed(old, arms int, pave bool) (int, int) {
	var list []int
	count := 0
	for side := range 4 {
		was, named := slices.Contains(sidesOf(old), side), slices.Contains(sidesOf(arms), side)
		is := was && !named
		if pave {
			is = was || named
		}
		if is {
			list = append(list, side)
		}
		if is != was {
			count++
		}
	}
	return armsOf(list), count
}

func TestP4_2PaveAndTear(t *testing.T) {
	for old := range 16 {
		for way := range 3 {
			if way > 0 && old != 5 && old != 10 {
				continue
			}
			for arms := range 16 {
				for _, tile := range []int{0, 8, 19} {
					s := oneWay(scattered(3, 5, 4), map[int]int{tile: way})
					s.Arms[tile] = old
					checkWork(t, "Pave", road.Pave, s, tile, arms, true, 150)
					checkWork(t, "Tear", road.Tear, s, tile, arms, false, 75)
				}
			}
		}
	}
}

type work func(api.Streets, int, int) (api.Streets, int, api.Errno)

func checkWork(t *testing.T, name string, do work, s api.Streets, tile, arms int, pave bool, price int) {
	kept := copied(s)
	want := copied(s)
	now, count := changed(s.Arms[tile], arms, pave)
	if count > 0 {
		want.Arms[tile], want.Ways[tile] = now, 0
	}
	x, cost, e := do(s, tile, arms)
	if e != api.OK || cost != count*price || !same(x, want) {
		t.Errorf("%s %d, arms %d on %d: %v, %d, %d", name, tile, arms, s.Arms[tile], x, cost, e)
	}
	if !same(s, kept) {
		t.Fatalf("%s %d, arms %d: the streets were changed", name, tile, arms)
	}
	scribble(x)
	if !same(s, kept) {
		t.Fatalf("%s %d, arms %d: the result shares memory", name, tile, arms)
	}
}

// scribble writes over all that streets hold.
func scribble(t api.Streets) {
	for tile := range t.Arms {
		t.Arms[tile], t.Ways[tile] = -7, -8
	}
}

func TestP4_2ByHand(t *testing.T) {
	s, cost, e := road.Pave(empty(5, 4), 7, 5)
	if e != api.OK || cost != 2*api.CostStreet || !same(s, streets(map[int]int{7: 5})) {
		t.Fatalf("a street: %v, %d, %d", s, cost, e)
	}
	s, e = road.Turn(s, 7, 2)
	if e != api.OK || !same(s, oneWay(streets(map[int]int{7: 5}), map[int]int{7: 2})) {
		t.Fatalf("one way: %v, %d", s, e)
	}
	x, cost, e := road.Pave(s, 7, 4)
	if e != api.OK || cost != 0 || !same(x, s) {
		t.Errorf("nothing new: %v, %d, %d", x, cost, e)
	}
	x, gain, e := road.Tear(s, 7, 10)
	if e != api.OK || gain != 0 || !same(x, s) {
		t.Errorf("nothing there: %v, %d, %d", x, gain, e)
	}
	x, cost, e = road.Pave(s, 7, 6)
	if e != api.OK || cost != api.CostStreet || !same(x, streets(map[int]int{7: 7})) {
		t.Errorf("an arm more: %v, %d, %d", x, cost, e)
	}
	x, gain, e = road.Tear(s, 7, 14)
	if e != api.OK || gain != 75 || !same(x, streets(map[int]int{7: 1})) {
		t.Errorf("an arm less: %v, %d, %d", x, gain, e)
	}
	x, gain, e = road.Tear(s, 7, 15)
	if e != api.OK || gain != 150 || !same(x, empty(5, 4)) {
		t.Errorf("no arm left: %v, %d, %d", x, gain, e)
	}
}

func TestP4_2WorkErrors(t *testing.T) {
	s := oneWay(streets(map[int]int{7: 5, 8: 15}), map[int]int{7: 1})
	tests := []struct {
		tile, arms int
		want       api.Errno
	}{
		{-1, 1, api.ErrNone},
		{20, 1, api.ErrNone},
		{minInt, 1, api.ErrNone},
		{maxInt, 1, api.ErrNone},
		{-1, 16, api.ErrNone},
		{20, -1, api.ErrNone},
		{7, -1, api.ErrArg},
		{7, 16, api.ErrArg},
		{0, minInt, api.ErrArg},
		{19, maxInt, api.ErrArg},
	}
	for _, test := range tests {
		if x, cost, e := road.Pave(s, test.tile, test.arms); e != test.want || cost != 0 || !isNone(x) {
			t.Errorf("Pave %d, %d: %v, %d, %d", test.tile, test.arms, x, cost, e)
		}
		if x, gain, e := road.Tear(s, test.tile, test.arms); e != test.want || gain != 0 || !isNone(x) {
			t.Errorf("Tear %d, %d: %v, %d, %d", test.tile, test.arms, x, gain, e)
		}
	}
}

func TestP4_2Turn(t *testing.T) {
	for arms := range 16 {
		for old := range 3 {
			if old > 0 && arms != 5 && arms != 10 {
				continue
			}
			for way := range 3 {
				s := oneWay(streets(map[int]int{8: arms, 3: 5, 9: 10}), map[int]int{8: old, 3: 1, 9: 2})
				kept := copied(s)
				x, e := road.Turn(s, 8, way)
				if way > 0 && arms != 5 && arms != 10 {
					if e != api.ErrRule || !isNone(x) {
						t.Errorf("arms %d, way %d: %v, %d", arms, way, x, e)
					}
					continue
				}
				if e != api.OK || !same(x, oneWay(copied(s), map[int]int{8: way})) {
					t.Errorf("arms %d, way %d: %v, %d", arms, way, x, e)
				}
				scribble(x)
				if !same(s, kept) {
					t.Fatalf("arms %d, way %d: the streets were changed", arms, way)
				}
			}
		}
	}
}

func TestP4_2TurnErrors(t *testing.T) {
	s := streets(map[int]int{7: 5, 8: 15, 19: 10})
	tests := []struct {
		tile, way int
		want      api.Errno
	}{
		{-1, 1, api.ErrNone},
		{20, 1, api.ErrNone},
		{minInt, 0, api.ErrNone},
		{maxInt, 0, api.ErrNone},
		{-1, 3, api.ErrNone},
		{20, -1, api.ErrNone},
		{7, -1, api.ErrArg},
		{7, 3, api.ErrArg},
		{7, minInt, api.ErrArg},
		{19, maxInt, api.ErrArg},
		{8, 3, api.ErrArg},
		{0, -1, api.ErrArg},
		{8, 1, api.ErrRule},
		{8, 2, api.ErrRule},
		{0, 1, api.ErrRule},
	}
	for _, test := range tests {
		if x, e := road.Turn(s, test.tile, test.way); e != test.want || !isNone(x) {
			t.Errorf("tile %d, way %d: %v, %d, want %d", test.tile, test.way, x, e, test.want)
		}
	}
}
