package route

import (
	"slices"

	"hinterland/api"
)

// way is a way between a node and one where a search began: its cost, the number
// of its nodes, and the one next to the node. If it has no nodes there is none.
type way struct{ node, cost, nodes, next int }

func (w way) end() int     { return w.node }
func (w way) rank() [3]int { return [3]int{w.cost, w.nodes, w.next} }

// Least returns the nodes of the least way from one of some nodes to one of
// others, and its cost.
func Least(n int, edges []api.Edge, from, to []int) ([]int, int, bool, api.Errno) {
	if e := validateNodes(n, edges, slices.Concat(from, to)...); e != api.OK {
		return nil, 0, false, e
	}
	// The search begins where the ways end: what is next on them then tells
	// which one of several comes first.
	ways := spread(n, flip(edges)).ways(to)
	var best way
	for _, node := range from {
		w := way{cost: ways[node].cost, nodes: ways[node].nodes, next: node}
		if w.nodes > 0 && (best.nodes == 0 || better(w, best)) {
			best = w
		}
	}
	if best.nodes == 0 {
		return nil, 0, false, api.OK
	}
	return trail(ways, best.next), best.cost, true, api.OK
}

// All returns for each node the cost of the least way from a node to it.
func All(n int, edges []api.Edge, from int) ([]int, api.Errno) {
	if e := validateNodes(n, edges, from); e != api.OK {
		return nil, e
	}
	costs := slices.Repeat([]int{-1}, n)
	for node, w := range spread(n, edges).ways([]int{from}) {
		if w.nodes > 0 {
			costs[node] = w.cost
		}
	}
	return costs, api.OK
}

// Next returns the node behind the first one of the least way from a node to
// one of others, or the node itself where that way ends.
func Next(n int, edges []api.Edge, at int, to []int) (int, bool, api.Errno) {
	nodes, _, ok, e := Least(n, edges, []int{at}, to)
	if !ok {
		return 0, false, e
	}
	return nodes[min(1, len(nodes)-1)], true, api.OK
}

// ways returns the best way of each node, when a search begins at some.
func (f fan) ways(first []int) []way {
	var begun []way
	for _, node := range first {
		begun = append(begun, way{node: node, nodes: 1, next: none})
	}
	ways := make([]way, len(f))
	for w := range search(len(f), begun, f.lead) {
		ways[w.node] = w
	}
	return ways
}

// lead relaxes the edges behind a way.
func (f fan) lead(w way, relax func(way)) {
	for _, e := range f[w.node] {
		relax(way{node: e.To, cost: w.cost + e.Cost, nodes: w.nodes + 1, next: w.node})
	}
}

// trail returns the nodes from one on, each with the one beside it.
func trail(ways []way, node int) []int {
	var list []int
	for ; node != none; node = ways[node].next {
		list = append(list, node)
	}
	return list
}
