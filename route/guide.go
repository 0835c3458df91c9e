package route

import (
	"slices"

	"hinterland/api"
)

// hope is a way to a node of which a guess tells what it may cost in all.
type hope struct{ node, cost, sum int }

func (h hope) end() int     { return h.node }
func (h hope) rank() [3]int { return [3]int{h.sum, h.cost, h.node} }

// Guided returns the cost of the least way from a node to another one, and how
// many nodes a search takes up that follows a guess.
func Guided(n int, edges []api.Edge, from, to int, guess []int) (int, int, bool, api.Errno) {
	if e := validateGuess(n, edges, guess, from, to); e != api.OK {
		return 0, 0, false, e
	}
	f := spread(n, edges)
	at := func(node, cost int) hope {
		return hope{node: node, cost: cost, sum: cost + guess[node]}
	}
	lead := func(h hope, relax func(hope)) {
		for _, e := range f[h.node] {
			relax(at(e.To, h.cost+e.Cost))
		}
	}
	taken := 0
	for h := range search(n, []hope{at(from, 0)}, lead) {
		taken++
		if h.node == to {
			return h.cost, taken, true, api.OK
		}
	}
	return 0, taken, false, api.OK
}

// Sound tells whether a guess of what the ways to a node cost says nowhere too
// much.
func Sound(n int, edges []api.Edge, to int, guess []int) (bool, api.Errno) {
	if e := validateGuess(n, edges, guess, to); e != api.OK {
		return false, e
	}
	over := func(e api.Edge) bool { return guess[e.From] > e.Cost+guess[e.To] }
	return guess[to] <= 0 && !slices.ContainsFunc(edges, over), api.OK
}

// validateGuess tells what is wrong with a graph, a list of its nodes and a
// guess.
func validateGuess(n int, edges []api.Edge, guess []int, nodes ...int) api.Errno {
	if e := validateNodes(n, edges, nodes...); e != api.OK {
		return e
	}
	wrong := func(cost int) bool { return cost < 0 || cost > api.MaxCost }
	switch {
	case len(guess) != n:
		return api.ErrFit
	case slices.ContainsFunc(guess, wrong):
		return api.ErrArg
	}
	return api.OK
}
