package route_test

import (
	"cmp"
	"math"
	"math/rand/v2"
	"slices"
	"testing"

	"hinterland/api"
)

const (
	minInt = math.MinInt
	maxInt = math.MaxInt
)

// tale is what is told of a way.
type tale struct {
	cost  int
	nodes []int
}

// order puts ways in the order of the chapter: by cost, by the number of their
// nodes, ascending.
func order(a, b tale) int {
	return cmp.Or(cmp.Compare(a.cost, b.cost), cmp.Compare(len(a.nodes), len(b.nodes)), slices.Compare(a.nodes, b.nodes))
}

func same(a, b tale) bool {
	return order(a, b) == 0
}

// tangle is a graph of n nodes and m edges by chance that cost 0 to most.
func tangle(chance *rand.Rand, n, m, most int) []api.Edge {
	var edges []api.Edge
	for range m {
		edges = append(edges, api.Edge{From: chance.IntN(n), To: chance.IntN(n), Cost: chance.IntN(most + 1)})
	}
	return edges
}

// row is a graph like a tangle whose nodes stand in a row by chance, and whose
// edges lead up to three places on or one back.
func row(chance *rand.Rand, n, m, most int) []api.Edge {
	places := chance.Perm(n)
	var edges []api.Edge
	for range m {
		from := chance.IntN(n)
		to := (from + n - 1 + chance.IntN(5)) % n
		edges = append(edges, api.Edge{From: places[from], To: places[to], Cost: chance.IntN(most + 1)})
	}
	return edges
}

// some are up to most nodes by chance, perhaps with some of them twice.
func some(chance *rand.Rand, n, most int) []int {
	var nodes []int
	for range chance.IntN(most + 1) {
		nodes = append(nodes, chance.IntN(n))
	}
	return nodes
}

// drawn are n numbers from 0 to most by chance.
func drawn(chance *rand.Rand, n, most int) []int {
	numbers := make([]int, n)
	for i := range numbers {
		numbers[i] = chance.IntN(most + 1)
	}
	return numbers
}

// cheapest are the costs of the cheapest edges between two nodes.
func cheapest(edges []api.Edge) map[[2]int]int {
	costs := map[[2]int]int{}
	for _, e := range edges {
		pair := [2]int{e.From, e.To}
		if cost, ok := costs[pair]; !ok || e.Cost < cost {
			costs[pair] = e.Cost
		}
	}
	return costs
}

// walks tells of all ways of at most n nodes that begin at one of some. What
// has more passes a node twice, and can be shortened.
func walks(n int, edges []api.Edge, from []int, tell func(tale)) {
	costs := cheapest(edges)
	var walk func(tale)
	walk = func(w tale) {
		tell(w)
		if len(w.nodes) == n {
			return
		}
		for next := range n {
			if cost, ok := costs[[2]int{w.nodes[len(w.nodes)-1], next}]; ok {
				walk(tale{w.cost + cost, append(slices.Clone(w.nodes), next)})
			}
		}
	}
	for _, node := range from {
		walk(tale{0, []int{node}})
	}
}

// leastOf is Least by trying all ways.
func leastOf(n int, edges []api.Edge, from, to []int) (tale, bool) {
	var best tale
	found := false
	walks(n, edges, from, func(w tale) {
		if slices.Contains(to, w.nodes[len(w.nodes)-1]) && (!found || order(w, best) < 0) {
			best, found = w, true
		}
	})
	return best, found
}

const far = maxInt / 4

// counted are for each number of nodes, from 1 to n, the least costs of the
// ways with so many nodes from each node to one of some.
func counted(n int, edges []api.Edge, to []int) [][]int {
	rows := [][]int{nil, slices.Repeat([]int{far}, n)}
	for _, node := range to {
		rows[1][node] = 0
	}
	for len(rows) <= n {
		last := rows[len(rows)-1]
		row := slices.Repeat([]int{far}, n)
		for _, e := range edges {
			row[e.From] = min(row[e.From], e.Cost+last[e.To])
		}
		rows = append(rows, row)
	}
	return rows
}

// leastByCounts is Least by the least costs for each number of nodes.
func leastByCounts(n int, edges []api.Edge, from, to []int) (tale, bool) {
	rows, costs := counted(n, edges, to), cheapest(edges)
	best, count := far, 0
	for k := 1; k <= n; k++ {
		for _, node := range from {
			if rows[k][node] < best {
				best, count = rows[k][node], k
			}
		}
	}
	if count == 0 {
		return tale{}, false
	}
	w := tale{cost: best}
	for left := best; count > 0; count-- {
		for node := range n {
			cost := 0
			if len(w.nodes) == 0 && !slices.Contains(from, node) {
				continue
			}
			if len(w.nodes) > 0 {
				var ok bool
				if cost, ok = costs[[2]int{w.nodes[len(w.nodes)-1], node}]; !ok {
					continue
				}
			}
			if rows[count][node] < far && cost+rows[count][node] == left {
				w.nodes, left = append(w.nodes, node), left-cost
				break
			}
		}
	}
	return w, true
}

// allOf are the least costs of ways between all nodes, far where there is none.
func allOf(n int, edges []api.Edge) [][]int {
	table := make([][]int, n)
	for node := range n {
		table[node] = slices.Repeat([]int{far}, n)
		table[node][node] = 0
	}
	for _, e := range edges {
		table[e.From][e.To] = min(table[e.From][e.To], e.Cost)
	}
	for over := range n {
		for from := range n {
			for to := range n {
				table[from][to] = min(table[from][to], table[from][over]+table[over][to])
			}
		}
	}
	return table
}

// guidedOf is Guided by the words of P8.3.
func guidedOf(n int, edges []api.Edge, from, to int, guess []int) (int, int, bool) {
	kept, taken := map[int]int{from: 0}, map[int]bool{}
	for {
		next := -1
		for node := range n {
			cost, ok := kept[node]
			if !ok || taken[node] {
				continue
			}
			if next < 0 || cost+guess[node] < kept[next]+guess[next] || cost+guess[node] == kept[next]+guess[next] && cost < kept[next] {
				next = node
			}
		}
		if next < 0 {
			return 0, len(taken), false
		}
		taken[next] = true
		if next == to {
			return kept[next], len(taken), true
		}
		for _, e := range edges {
			if cost, ok := kept[e.To]; e.From == next && (!ok || kept[next]+e.Cost < cost) && !taken[e.To] {
				kept[e.To] = kept[next] + e.Cost
			}
		}
	}
}

// stepsOf are the steps of P8.4 between the borders of regions.
func stepsOf(n int, edges []api.Edge, region []int, from, to int) []api.Edge {
	borders := map[int]bool{from: true, to: true}
	var steps, inner []api.Edge
	for _, e := range edges {
		if region[e.From] == region[e.To] {
			inner = append(inner, e)
			continue
		}
		borders[e.From], borders[e.To] = true, true
		steps = append(steps, e)
	}
	for a, costs := range allOf(n, inner) {
		for b, cost := range costs {
			if a != b && borders[a] && borders[b] && cost < far {
				steps = append(steps, api.Edge{From: a, To: b, Cost: cost})
			}
		}
	}
	return steps
}

// strongOf is Strong by the words of P8.5.
func strongOf(n int, edges []api.Edge) []int {
	costs := allOf(n, edges)
	strong := make([]int, n)
	for node := range n {
		for strong[node] = 0; costs[node][strong[node]] == far || costs[strong[node]][node] == far; strong[node]++ {
		}
	}
	return strong
}

// given is a copy of what a call is given.
type given struct {
	edges []api.Edge
	lists [][]int
	own   []api.Edge
	owns  [][]int
}

func give(edges []api.Edge, lists ...[]int) given {
	g := given{edges: edges, lists: lists, own: slices.Clone(edges)}
	for _, list := range lists {
		g.owns = append(g.owns, slices.Clone(list))
	}
	return g
}

// check tells whether a call has changed what it was given.
func (g given) check(t *testing.T) {
	t.Helper()
	if !slices.Equal(g.edges, g.own) || !slices.EqualFunc(g.lists, g.owns, slices.Equal) {
		t.Error("an argument is changed")
	}
}
