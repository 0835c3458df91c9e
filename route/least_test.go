package route_test

import (
	"math/rand/v2"
	"slices"
	"testing"

	"hinterland/api"
	"hinterland/route"
)

// ring are edges from each of n nodes to the next one, first of all from the
// last one to 0.
func ring(n, cost int) []api.Edge {
	var edges []api.Edge
	for node := range n {
		edges = append(edges, api.Edge{From: (node + n - 1) % n, To: node, Cost: cost})
	}
	return edges
}

// least asks for a way that there must be.
func least(t *testing.T, n int, edges []api.Edge, from, to []int) tale {
	t.Helper()
	nodes, cost, ok, e := route.Least(n, edges, from, to)
	if !ok || e != api.OK {
		t.Errorf("from %v to %v: %t, %d", from, to, ok, e)
	}
	return tale{cost, nodes}
}

func TestP8_2Example(t *testing.T) {
	edges := []api.Edge{{From: 0, To: 1, Cost: 3}, {From: 1, To: 2, Cost: 1}, {From: 0, To: 2, Cost: 4}}
	if w := least(t, 3, edges, []int{0}, []int{2}); !same(w, tale{4, []int{0, 2}}) {
		t.Error(w)
	}
	edges[2].Cost = 5
	if w := least(t, 3, edges, []int{0}, []int{2}); !same(w, tale{4, []int{0, 1, 2}}) {
		t.Error("the cheaper one of more nodes:", w)
	}
}

func TestP8_2LeastByHand(t *testing.T) {
	net := []api.Edge{
		{From: 0, To: 3, Cost: 2}, {From: 0, To: 2, Cost: 2}, {From: 0, To: 1, Cost: 5}, {From: 0, To: 1, Cost: 3}, {From: 0, To: 1, Cost: 9},
		{From: 1, To: 4, Cost: 0}, {From: 2, To: 4, Cost: 1}, {From: 3, To: 4, Cost: 1}, {From: 4, To: 4, Cost: 0}, {From: 4, To: 5, Cost: 7}, {From: 5, To: 4, Cost: 7},
	}
	for name, c := range map[string]struct {
		from, to []int
		want     tale
	}{
		"one node":                     {[]int{3}, []int{3}, tale{0, []int{3}}},
		"the cheapest of three edges":  {[]int{0}, []int{1}, tale{3, []int{0, 1}}},
		"the first one of three":       {[]int{0}, []int{4}, tale{3, []int{0, 1, 4}}},
		"not over what is shut":        {[]int{0}, []int{5}, tale{10, []int{0, 1, 4, 5}}},
		"the nearer begin":             {[]int{0, 3}, []int{4}, tale{1, []int{3, 4}}},
		"the first one of two begins":  {[]int{3, 2}, []int{4}, tale{1, []int{2, 4}}},
		"begins twice":                 {[]int{3, 3, 2, 2}, []int{4, 4}, tale{1, []int{2, 4}}},
		"the nearer end":               {[]int{0}, []int{5, 4}, tale{3, []int{0, 1, 4}}},
		"an end of fewer nodes":        {[]int{0}, []int{4, 1}, tale{3, []int{0, 1}}},
		"the first one of two ends":    {[]int{0}, []int{3, 2}, tale{2, []int{0, 2}}},
		"a begin that is an end":       {[]int{0, 5}, []int{4, 5}, tale{0, []int{5}}},
		"the first one that is both":   {[]int{5, 3, 4}, []int{4, 3, 5}, tale{0, []int{3}}},
		"one node ahead of two for 0":  {[]int{1, 4}, []int{4}, tale{0, []int{4}}},
		"for 0":                        {[]int{1}, []int{4}, tale{0, []int{1, 4}}},
		"back":                         {[]int{5}, []int{4}, tale{7, []int{5, 4}}},
		"from all that cannot but one": {[]int{5, 4}, []int{0, 5}, tale{0, []int{5}}},
	} {
		if w := least(t, 6, net, c.from, c.to); !same(w, c.want) {
			t.Errorf("%s: %v; want %v", name, w, c.want)
		}
	}
}

func TestP8_2LeastFirst(t *testing.T) {
	// All ways from 0 to 6 cost 6 and have four nodes; the first one goes by the
	// second edge of the list, and its rest by what is dear at first.
	edges := []api.Edge{
		{From: 0, To: 2, Cost: 1}, {From: 0, To: 1, Cost: 2}, {From: 2, To: 3, Cost: 1}, {From: 1, To: 5, Cost: 1},
		{From: 1, To: 4, Cost: 4}, {From: 3, To: 6, Cost: 4}, {From: 5, To: 6, Cost: 3}, {From: 4, To: 6, Cost: 0},
	}
	if w := least(t, 7, edges, []int{0}, []int{6}); !same(w, tale{6, []int{0, 1, 4, 6}}) {
		t.Error(w)
	}
}

func TestP8_2LeastNone(t *testing.T) {
	edges := []api.Edge{{From: 0, To: 1}, {From: 2, To: 1}}
	for _, c := range []struct{ from, to []int }{
		{nil, nil}, {nil, []int{0}}, {[]int{0}, nil}, {[]int{}, []int{}}, {[]int{1}, []int{0}}, {[]int{0}, []int{2}}, {[]int{1, 1}, []int{2, 0}},
	} {
		if l, cost, ok, e := route.Least(3, edges, c.from, c.to); l != nil || cost != 0 || ok || e != api.OK {
			t.Errorf("from %v to %v: %v, %d, %t, %d", c.from, c.to, l, cost, ok, e)
		}
	}
	if l, cost, ok, e := route.Least(0, nil, nil, nil); l != nil || cost != 0 || ok || e != api.OK {
		t.Error("no nodes:", l, cost, ok, e)
	}
}

func TestP8_2LeastOfAllWays(t *testing.T) {
	chance := rand.New(rand.NewPCG(8, 2))
	var lengths [6]int
	for range 6000 {
		n := 1 + chance.IntN(5)
		edges := tangle(chance, n, chance.IntN(4*n), chance.IntN(4))
		from, to := some(chance, n, 3), some(chance, n, 3)
		g := give(edges, from, to)
		nodes, cost, ok, e := route.Least(n, edges, from, to)
		want, found := leastOf(n, edges, from, to)
		if e != api.OK || ok != found || !same(tale{cost, nodes}, want) {
			t.Fatalf("%d nodes, %v, from %v to %v: %v, %d, %t, %d; want %v, %t", n, edges, from, to, nodes, cost, ok, e, want, found)
		}
		if other, found := leastByCounts(n, edges, from, to); ok != found || !same(other, want) {
			t.Fatalf("%d nodes, %v, from %v to %v: the models say %v, %t and %v", n, edges, from, to, other, found, want)
		}
		lengths[len(nodes)]++
		g.check(t)
	}
	if slices.Min(lengths[:4]) < 50 {
		t.Error("too few ways:", lengths)
	}
}

func TestP8_2LeastOfMany(t *testing.T) {
	chance := rand.New(rand.NewPCG(8, 22))
	longest := 0
	for range 400 {
		n := 6 + chance.IntN(50)
		edges := row(chance, n, n+chance.IntN(3*n), 1+chance.IntN(6))
		from, to := some(chance, n, 2), some(chance, n, 2)
		nodes, cost, ok, e := route.Least(n, edges, from, to)
		want, found := leastByCounts(n, edges, from, to)
		if e != api.OK || ok != found || !same(tale{cost, nodes}, want) {
			t.Fatalf("%d nodes, %v, from %v to %v: %v, %d, %t, %d; want %v, %t", n, edges, from, to, nodes, cost, ok, e, want, found)
		}
		longest = max(longest, len(nodes))
	}
	if longest < 10 {
		t.Error("too short ways:", longest)
	}
}

func TestP8_2Lattice(t *testing.T) {
	// On a lattice whose edges all cost the same there are very many ways of the
	// same cost and number of nodes.
	const side = 31
	var edges []api.Edge
	for node := range side * side {
		if node%side < side-1 {
			edges = append(edges, api.Edge{From: node, To: node + 1, Cost: 5}, api.Edge{From: node + 1, To: node, Cost: 5})
		}
		if node/side < side-1 {
			edges = append(edges, api.Edge{From: node, To: node + side, Cost: 5}, api.Edge{From: node + side, To: node, Cost: 5})
		}
	}
	var want []int
	for node := 0; node < side; node++ {
		want = append(want, node)
	}
	for node := 2*side - 1; node < side*side; node += side {
		want = append(want, node)
	}
	if w := least(t, side*side, edges, []int{0}, []int{side*side - 1}); !same(w, tale{5 * (2*side - 2), want}) {
		t.Error(w)
	}
	slices.Reverse(edges)
	if w := least(t, side*side, edges, []int{0}, []int{side*side - 1}); !same(w, tale{5 * (2*side - 2), want}) {
		t.Error("in another order:", w)
	}
}

func TestP8_2Greatest(t *testing.T) {
	edges := slices.Repeat(ring(api.MaxNodes, api.MaxCost), 4)
	w := least(t, api.MaxNodes, edges, []int{0}, []int{999})
	if w.cost != 999*api.MaxCost || len(w.nodes) != 1000 || w.nodes[500] != 500 {
		t.Error(w.cost, len(w.nodes))
	}
	if l, e := route.All(api.MaxNodes, edges, 1); e != api.OK || len(l) != 1000 || l[0] != 999*api.MaxCost || l[1] != 0 || l[501] != 500*api.MaxCost {
		t.Error("All", e)
	}
	if k, ok, e := route.Next(api.MaxNodes, edges, 999, []int{998, 997}); k != 0 || !ok || e != api.OK {
		t.Error("Next", k, ok, e)
	}
	all := slices.Repeat(w.nodes, 20)
	if w := least(t, api.MaxNodes, edges, all, all); !same(w, tale{0, []int{0}}) {
		t.Error("from all to all", w)
	}
}

func TestP8_2AllByHand(t *testing.T) {
	edges := []api.Edge{{From: 1, To: 0, Cost: 4}, {From: 1, To: 2, Cost: 1}, {From: 2, To: 0, Cost: 2}, {From: 3, To: 1, Cost: 0}, {From: 1, To: 1, Cost: 3}, {From: 0, To: 4}}
	for from, want := range [][]int{{0, -1, -1, -1, 0}, {3, 0, 1, -1, 3}, {2, -1, 0, -1, 2}, {3, 0, 1, 0, 3}, {-1, -1, -1, -1, 0}} {
		if l, e := route.All(5, edges, from); e != api.OK || !slices.Equal(l, want) {
			t.Error("from", from, l, e, "want", want)
		}
	}
}

func TestP8_2AllAndNext(t *testing.T) {
	chance := rand.New(rand.NewPCG(8, 222))
	steps := 0
	for range 500 {
		n := 1 + chance.IntN(20)
		edges := tangle(chance, n, chance.IntN(3*n), 1+chance.IntN(9))
		costs := allOf(n, edges)
		to := some(chance, n, 3)
		g := give(edges, to)
		for node := range n {
			l, e := route.All(n, edges, node)
			for i, cost := range costs[node] {
				if cost == far {
					costs[node][i] = -1
				}
			}
			if e != api.OK || !slices.Equal(l, costs[node]) {
				t.Fatalf("%d nodes, %v, from %d: %v, %d; want %v", n, edges, node, l, e, costs[node])
			}
			k, ok, e := route.Next(n, edges, node, to)
			want, found := leastByCounts(n, edges, []int{node}, to)
			next := 0
			if found {
				next = want.nodes[min(1, len(want.nodes)-1)]
			}
			if e != api.OK || ok != found || k != next {
				t.Fatalf("%d nodes, %v, from %d to %v: %d, %t, %d; want %v, %t", n, edges, node, to, k, ok, e, want, found)
			}
			steps += len(want.nodes)
		}
		g.check(t)
	}
	if steps < 5000 {
		t.Error("too few steps:", steps)
	}
}

func TestP8_2NextByHand(t *testing.T) {
	edges := []api.Edge{{From: 0, To: 2, Cost: 1}, {From: 0, To: 1, Cost: 1}, {From: 1, To: 3, Cost: 1}, {From: 2, To: 3, Cost: 1}, {From: 0, To: 4, Cost: 9}}
	for _, c := range []struct {
		at   int
		to   []int
		next int
		ok   bool
	}{
		{0, []int{3}, 1, true}, {2, []int{3}, 3, true}, {3, []int{3}, 3, true}, {0, []int{4, 0}, 0, true}, {0, []int{4}, 4, true},
		{0, []int{4, 2, 1}, 1, true}, {3, []int{0}, 0, false}, {3, nil, 0, false}, {4, []int{0, 1}, 0, false}, {4, []int{0, 4, 1}, 4, true},
	} {
		if k, ok, e := route.Next(5, edges, c.at, c.to); e != api.OK || k != c.next || ok != c.ok {
			t.Errorf("from %d to %v: %d, %t, %d; want %d, %t", c.at, c.to, k, ok, e, c.next, c.ok)
		}
	}
}

func TestP8_2Memory(t *testing.T) {
	edges := []api.Edge{{From: 0, To: 1, Cost: 1}}
	from, to := []int{0}, []int{1}
	one := least(t, 2, edges, from, to)
	two := least(t, 2, edges, from, to)
	one.nodes[0], one.nodes[1] = 7, 7
	if !same(two, tale{1, []int{0, 1}}) || from[0] != 0 || to[0] != 1 {
		t.Error("ways share memory:", two, from, to)
	}
}
