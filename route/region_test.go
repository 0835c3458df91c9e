package route_test

import (
	"math/rand/v2"
	"slices"
	"testing"

	"hinterland/api"
	"hinterland/route"
)

func TestP8_4ByHand(t *testing.T) {
	// Two regions: 0 to 3 in a row and 4 to 6 in a row, joined by 3 to 4, and
	// by 1 to 5, which is dear.
	edges := []api.Edge{
		{From: 0, To: 1, Cost: 1}, {From: 1, To: 2, Cost: 1}, {From: 2, To: 3, Cost: 1}, {From: 3, To: 4, Cost: 1},
		{From: 4, To: 5, Cost: 1}, {From: 5, To: 6, Cost: 1}, {From: 1, To: 5, Cost: 9}, {From: 1, To: 5, Cost: 10}, {From: 6, To: 6, Cost: 0},
	}
	two := []int{7, 7, 7, 7, -7, -7, -7}
	for name, c := range map[string]struct {
		region   []int
		from, to int
		want     tale
	}{
		"one node":                            {two, 2, 2, tale{0, []int{2}}},
		"one region":                          {two, 0, 2, tale{2, []int{0, 2}}},
		"over a border that it passes":        {two, 0, 3, tale{3, []int{0, 3}}},
		"from region to region":               {two, 0, 6, tale{6, []int{0, 3, 4, 6}}},
		"by one edge":                         {two, 3, 4, tale{1, []int{3, 4}}},
		"from within":                         {two, 2, 6, tale{4, []int{2, 3, 4, 6}}},
		"to within":                           {two, 3, 5, tale{2, []int{3, 4, 5}}},
		"all in one region":                   {[]int{0, 0, 0, 0, 0, 0, 0}, 0, 6, tale{6, []int{0, 6}}},
		"each in its own":                     {[]int{6, 5, 4, 3, 2, 1, 0}, 0, 6, tale{6, []int{0, 1, 2, 3, 4, 5, 6}}},
		"one region in two parts":             {[]int{0, 0, 1, 0, 0, 0, 0}, 0, 6, tale{6, []int{0, 1, 2, 3, 6}}},
		"the least and the greatest numbers":  {[]int{minInt, minInt, maxInt, maxInt, maxInt, maxInt, maxInt}, 0, 6, tale{6, []int{0, 1, 2, 6}}},
		"a region may be left and found anew": {[]int{0, 0, 0, 1, 0, 0, 0}, 1, 6, tale{5, []int{1, 2, 3, 4, 6}}},
	} {
		cost, list, ok, e := route.Regions(7, edges, c.region, c.from, c.to)
		if e != api.OK || !ok || !same(tale{cost, list}, c.want) {
			t.Errorf("%s: %d, %v, %t, %d; want %v", name, cost, list, ok, e, c.want)
		}
	}
}

func TestP8_4Alike(t *testing.T) {
	// Of ways that cost the same, by 1 and 2 within the region, or by 3 or 4 of
	// other regions.
	edges := []api.Edge{
		{From: 0, To: 2, Cost: 1}, {From: 2, To: 1, Cost: 1}, {From: 1, To: 5, Cost: 2},
		{From: 0, To: 4, Cost: 2}, {From: 4, To: 5, Cost: 2}, {From: 0, To: 3, Cost: 1}, {From: 3, To: 5, Cost: 3},
	}
	for _, c := range []struct {
		region []int
		want   []int
	}{
		{[]int{0, 0, 0, 0, 0, 0}, []int{0, 5}},
		{[]int{0, 0, 0, 0, 0, 1}, []int{0, 1, 5}},
		{[]int{0, 0, 0, 1, 1, 1}, []int{0, 1, 5}},
		{[]int{0, 1, 1, 1, 1, 0}, []int{0, 3, 5}},
		{[]int{0, 1, 0, 1, 0, 0}, []int{0, 5}},
		{[]int{0, 1, 0, 1, 0, 2}, []int{0, 3, 5}},
		{[]int{0, 1, 2, 0, 0, 0}, []int{0, 5}},
	} {
		cost, list, ok, e := route.Regions(6, edges, c.region, 0, 5)
		if e != api.OK || !ok || !same(tale{cost, list}, tale{4, c.want}) {
			t.Errorf("%v: %d, %v, %t, %d; want %v", c.region, cost, list, ok, e, c.want)
		}
	}
}

func TestP8_4None(t *testing.T) {
	edges := []api.Edge{{From: 0, To: 1}, {From: 2, To: 1}}
	for _, region := range [][]int{{0, 0, 0}, {0, 1, 0}, {0, 1, 2}} {
		for _, c := range [][2]int{{1, 0}, {0, 2}, {1, 2}} {
			if cost, list, ok, e := route.Regions(3, edges, region, c[0], c[1]); cost != 0 || list != nil || ok || e != api.OK {
				t.Error(region, c, cost, list, ok, e)
			}
		}
	}
}

func TestP8_4Errors(t *testing.T) {
	edges := []api.Edge{{From: 0, To: 1}}
	others := []string{"Validate", "Least", "All", "Guided", "Sound", "Strong", "Next"}
	for _, region := range [][]int{nil, {}, {0}, {0, 0, 0}} {
		refused(t, "not as many numbers as nodes", api.ErrFit, calls(2, edges, 0, 1, region), others...)
	}
}

// byTheWords compares Regions with the words of P8.4 on a graph.
func byTheWords(t *testing.T, n int, edges []api.Edge, region []int, from, to int, model func(int, []api.Edge, []int, []int) (tale, bool)) int {
	g := give(edges, region)
	cost, list, ok, e := route.Regions(n, edges, region, from, to)
	want, found := model(n, stepsOf(n, edges, region, from, to), []int{from}, []int{to})
	if e != api.OK || ok != found || !same(tale{cost, list}, want) {
		t.Fatalf("%d nodes, %v, %v, from %d to %d: %d, %v, %t, %d; want %v, %t", n, edges, region, from, to, cost, list, ok, e, want, found)
	}
	g.check(t)
	if _, c, o, _ := route.Least(n, edges, []int{from}, []int{to}); c != cost || o != ok {
		t.Fatalf("S8: %d nodes, %v, %v, from %d to %d: %d, %t; Least: %d, %t", n, edges, region, from, to, cost, ok, c, o)
	}
	return len(list)
}

func TestP8_4OfAllWays(t *testing.T) {
	chance := rand.New(rand.NewPCG(8, 4))
	var lengths [6]int
	for range 4000 {
		n := 1 + chance.IntN(5)
		edges := tangle(chance, n, chance.IntN(4*n), chance.IntN(4))
		lengths[byTheWords(t, n, edges, drawn(chance, n, chance.IntN(4)), chance.IntN(n), chance.IntN(n), leastOf)]++
	}
	if slices.Min(lengths[:4]) < 20 {
		t.Error("too few ways:", lengths)
	}
}

func TestP8_4OfMany(t *testing.T) {
	chance := rand.New(rand.NewPCG(8, 44))
	longest := 0
	for range 1500 {
		n := 4 + chance.IntN(30)
		edges := row(chance, n, n+chance.IntN(3*n), chance.IntN(5))
		longest = max(longest, byTheWords(t, n, edges, drawn(chance, n, chance.IntN(8)), chance.IntN(n), chance.IntN(n), leastByCounts))
	}
	if longest < 10 {
		t.Error("too short ways:", longest)
	}
}

func TestP8_4Greatest(t *testing.T) {
	edges := slices.Repeat(ring(api.MaxNodes, api.MaxCost), 4)
	for _, c := range []struct {
		numbers []int // of four nodes, and so on
		borders int
	}{{[]int{0, 0, 0, 0}, 2}, {[]int{0, 1, 0, 1}, 1000}, {[]int{0, 1, 2, 2}, 1000}, {[]int{0, 1, 1, 1}, 750}} {
		cost, list, ok, e := route.Regions(api.MaxNodes, edges, slices.Repeat(c.numbers, api.MaxNodes/4), 0, 999)
		if cost != 999*api.MaxCost || len(list) != c.borders || !ok || e != api.OK {
			t.Error(c.numbers, cost, len(list), ok, e)
		}
	}
}

func TestS8Regions(t *testing.T) {
	chance := rand.New(rand.NewPCG(8, 88))
	ways := 0
	for range 60 {
		n := api.MaxNodes
		edges := tangle(chance, n, api.MaxEdges, 1+chance.IntN(1000))
		from, to := chance.IntN(n), chance.IntN(n)
		_, want, found, _ := route.Least(n, edges, []int{from}, []int{to})
		for _, most := range []int{0, 1, 30, maxInt - 1} {
			region := drawn(chance, n, most)
			cost, list, ok, e := route.Regions(n, edges, region, from, to)
			if cost != want || ok != found || e != api.OK {
				t.Fatalf("from %d to %d: %d, %t, %d; want %d, %t", from, to, cost, ok, e, want, found)
			}
			if ok && (list[0] != from || list[len(list)-1] != to) {
				t.Fatalf("from %d to %d: %v", from, to, list)
			}
		}
		if found {
			ways++
		}
	}
	if ways < 20 {
		t.Error("too few ways:", ways)
	}
}
