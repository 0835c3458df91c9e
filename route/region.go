package route

import "hinterland/api"

// regions is a graph in regions, with the edges that lead to each node.
//
// A search knows each node twice: by its number as an end of steps, and by a
// number that is greater by that of all nodes as a place on a step within its
// region. The way from such a place has the end of this step as its next. A
// step counts two: within a region one where it ends and one where it begins,
// so that all ends with ways of one cost and count are taken up ahead of the
// places on the steps to them.
//
// Whether an end is a border need not be asked: at another node no edge leaves
// the region, so that the two steps that meet there are one of as little cost.
type regions struct {
	fan    fan
	region []int
}

// Regions returns the cost of the least way from a node to another one, and the
// borders between its steps.
func Regions(n int, edges []api.Edge, region []int, from, to int) (int, []int, bool, api.Errno) {
	if e := validateNodes(n, edges, from, to); e != api.OK {
		return 0, nil, false, e
	}
	if len(region) != n {
		return 0, nil, false, api.ErrFit
	}
	r := regions{fan: spread(n, flip(edges)), region: region}
	ways := make([]way, 2*n)
	for w := range search(2*n, []way{{node: to, next: none}}, r.lead) {
		ways[w.node] = w
		if w.node == from {
			return w.cost, trail(ways, from), true, api.OK
		}
	}
	return 0, nil, false, api.OK
}

// lead relaxes the steps to an end: those by one edge, and the one within its
// region.
func (r regions) lead(w way, relax func(way)) {
	n := len(r.fan)
	if w.node >= n {
		r.leadWithin(w, relax)
		return
	}
	relax(way{node: n + w.node, cost: w.cost, nodes: w.nodes + 1, next: w.node})
	for _, e := range r.fan[w.node] {
		if r.leaves(e) {
			relax(way{node: e.To, cost: w.cost + e.Cost, nodes: w.nodes + 2, next: w.node})
		}
	}
}

// leadWithin relaxes the edges of a region to a place on a step, which may
// begin there.
func (r regions) leadWithin(w way, relax func(way)) {
	n := len(r.fan)
	node := w.node - n
	relax(way{node: node, cost: w.cost, nodes: w.nodes + 1, next: w.next})
	for _, e := range r.fan[node] {
		if !r.leaves(e) {
			relax(way{node: n + e.To, cost: w.cost + e.Cost, nodes: w.nodes, next: w.next})
		}
	}
}

// leaves tells whether an edge joins unlike regions.
func (r regions) leaves(e api.Edge) bool {
	return r.region[e.From] != r.region[e.To]
}
