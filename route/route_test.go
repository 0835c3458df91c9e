package route_test

import (
	"math/rand/v2"
	"slices"
	"testing"

	"hinterland/api"
	"hinterland/route"
)

// calls are all functions with graphs, told which error each one returned, and
// whether it returned anything else.
func calls(n int, edges []api.Edge, from, to int, numbers []int) map[string]func() (api.Errno, bool) {
	return map[string]func() (api.Errno, bool){
		"Validate": func() (api.Errno, bool) { return route.Validate(n, edges), false },
		"Least": func() (api.Errno, bool) {
			l, c, ok, e := route.Least(n, edges, []int{from}, []int{to})
			return e, l != nil || c != 0 || ok
		},
		"All": func() (api.Errno, bool) { l, e := route.All(n, edges, from); return e, l != nil },
		"Guided": func() (api.Errno, bool) {
			c, k, ok, e := route.Guided(n, edges, from, to, numbers)
			return e, c != 0 || k != 0 || ok
		},
		"Sound": func() (api.Errno, bool) { ok, e := route.Sound(n, edges, from, numbers); return e, ok },
		"Regions": func() (api.Errno, bool) {
			c, l, ok, e := route.Regions(n, edges, numbers, from, to)
			return e, c != 0 || l != nil || ok
		},
		"Strong": func() (api.Errno, bool) { l, e := route.Strong(n, edges); return e, l != nil },
		"Next": func() (api.Errno, bool) {
			k, ok, e := route.Next(n, edges, from, []int{to})
			return e, k != 0 || ok
		},
	}
}

// refused asks functions for an error, all that have graphs but some.
func refused(t *testing.T, name string, want api.Errno, calls map[string]func() (api.Errno, bool), but ...string) {
	t.Helper()
	for f, call := range calls {
		if e, more := call(); !slices.Contains(but, f) && (e != want || more) {
			t.Errorf("%s, %s: %d, a result: %t; want %d", f, name, e, more, want)
		}
	}
}

func TestP8_1Validate(t *testing.T) {
	full := slices.Repeat([]api.Edge{{From: 0, To: 999, Cost: api.MaxCost}}, api.MaxEdges)
	for _, g := range []struct {
		n     int
		edges []api.Edge
	}{{0, nil}, {0, []api.Edge{}}, {1, nil}, {1, []api.Edge{{}}}, {2, []api.Edge{{From: 1, To: 1, Cost: 1}, {From: 1, To: 0}, {From: 1, To: 0}}}, {api.MaxNodes, full}} {
		if e := route.Validate(g.n, g.edges); e != api.OK {
			t.Errorf("%d nodes, %d edges: %d", g.n, len(g.edges), e)
		}
	}
}

func TestP8_1ValidateErrors(t *testing.T) {
	many := make([]api.Edge, api.MaxEdges+1)
	off, dear := api.Edge{From: -1}, api.Edge{Cost: -1}
	for name, c := range map[string]struct {
		n     int
		edges []api.Edge
		want  api.Errno
	}{
		"a node too many":                 {api.MaxNodes + 1, nil, api.ErrLarge},
		"the most nodes of all":           {maxInt, []api.Edge{dear, off}, api.ErrLarge},
		"an edge too many":                {1, many, api.ErrLarge},
		"edges too many ahead of few":     {-1, many, api.ErrLarge},
		"a node too few":                  {-1, nil, api.ErrArg},
		"the fewest nodes of all":         {minInt, []api.Edge{off}, api.ErrArg},
		"a cost too low":                  {1, []api.Edge{{}, dear}, api.ErrArg},
		"a cost too high":                 {1, []api.Edge{{Cost: api.MaxCost + 1}}, api.ErrArg},
		"the lowest cost of all":          {1, []api.Edge{{Cost: minInt}}, api.ErrArg},
		"the highest cost of all":         {1, []api.Edge{{Cost: maxInt}}, api.ErrArg},
		"a cost behind an edge from none": {1, []api.Edge{off, dear}, api.ErrArg},
		"an edge from none":               {1, []api.Edge{{}, off}, api.ErrNone},
		"an edge from one behind":         {3, []api.Edge{{From: 3}}, api.ErrNone},
		"an edge to one behind":           {3, []api.Edge{{To: 3}}, api.ErrNone},
		"an edge to none":                 {3, []api.Edge{{To: -1}}, api.ErrNone},
		"an edge to the greatest number":  {3, []api.Edge{{To: maxInt}}, api.ErrNone},
		"an edge from the least number":   {3, []api.Edge{{From: minInt}}, api.ErrNone},
		"an edge without nodes":           {0, []api.Edge{{}}, api.ErrNone},
	} {
		refused(t, name, c.want, calls(c.n, c.edges, -1, -1, []int{-1, -1}))
		refused(t, name, c.want, calls(c.n, c.edges, 0, 0, nil))
	}
}

func TestP8_1NoNode(t *testing.T) {
	edges := []api.Edge{{From: 0, To: 1}}
	guess := []int{0, api.MaxCost + 1, 0} // of one node too many, and too high
	for _, node := range []int{-1, 2, 3, minInt, maxInt} {
		refused(t, "no node", api.ErrNone, calls(2, edges, node, node, guess), "Validate", "Strong")
		refused(t, "from no node", api.ErrNone, calls(2, edges, node, 0, guess), "Validate", "Strong")
		refused(t, "to no node", api.ErrNone, calls(2, edges, 0, node, guess), "Validate", "Strong", "All", "Sound")
		if l, c, ok, e := route.Least(2, edges, []int{0, node, 1}, nil); l != nil || c != 0 || ok || e != api.ErrNone {
			t.Error("Least from many", l, c, ok, e)
		}
		if l, c, ok, e := route.Least(2, edges, nil, []int{0, 1, node}); l != nil || c != 0 || ok || e != api.ErrNone {
			t.Error("Least to many", l, c, ok, e)
		}
		if k, ok, e := route.Next(2, edges, 1, []int{1, 0, node}); k != 0 || ok || e != api.ErrNone {
			t.Error("Next", k, ok, e)
		}
	}
	refused(t, "without nodes", api.ErrNone, calls(0, nil, 0, 0, guess), "Validate", "Strong")
}

func TestP8_5ByHand(t *testing.T) {
	for _, c := range []struct {
		n     int
		edges []api.Edge
		want  []int
	}{
		{0, nil, nil},
		{1, nil, []int{0}},
		{3, nil, []int{0, 1, 2}},
		{3, []api.Edge{{From: 0, To: 1}, {From: 1, To: 2}}, []int{0, 1, 2}},
		{3, []api.Edge{{From: 2, To: 1}, {From: 1, To: 2, Cost: 9}}, []int{0, 1, 1}},
		{4, []api.Edge{{From: 3, To: 1}, {From: 1, To: 2}, {From: 2, To: 3}, {From: 0, To: 3}, {From: 1, To: 1}}, []int{0, 1, 1, 1}},
		{5, []api.Edge{{From: 4, To: 0}, {From: 0, To: 4}, {From: 3, To: 1}, {From: 1, To: 3}, {From: 1, To: 4}}, []int{0, 1, 2, 1, 0}},
	} {
		if l, e := route.Strong(c.n, c.edges); e != api.OK || !slices.Equal(l, c.want) {
			t.Errorf("%d nodes, %v: %v, %d; want %v", c.n, c.edges, l, e, c.want)
		}
	}
}

func TestP8_5ByTheWords(t *testing.T) {
	chance := rand.New(rand.NewPCG(8, 5))
	for range 3000 {
		n := 1 + chance.IntN(12)
		edges := tangle(chance, n, chance.IntN(2*n), 3)
		g := give(edges)
		if l, e := route.Strong(n, edges); e != api.OK || !slices.Equal(l, strongOf(n, edges)) {
			t.Fatalf("%d nodes, %v: %v, %d; want %v", n, edges, l, e, strongOf(n, edges))
		}
		g.check(t)
	}
}

func TestP8_5Greatest(t *testing.T) {
	edges := ring(api.MaxNodes, 1)
	if l, e := route.Strong(api.MaxNodes, edges); e != api.OK || !slices.Equal(l, make([]int, api.MaxNodes)) {
		t.Error("a ring:", e)
	}
	if l, e := route.Strong(api.MaxNodes, edges[1:]); e != api.OK || len(l) != api.MaxNodes || l[999] != 999 || l[500] != 500 {
		t.Error("an open ring:", e)
	}
}
