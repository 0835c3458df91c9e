package route

import (
	"iter"
	"slices"
)

// ranked is what a search knows of a way to a node. Of two ways the one with
// the lower rank is the better one.
type ranked interface {
	end() int
	rank() [3]int
}

// search takes up nodes from 0 to size - 1, always the one with the best way so
// far and none twice, and returns these ways. It knows the ways first to begin
// with; step relaxes the edges behind a way that is taken up.
func search[W ranked](size int, first []W, step func(w W, relax func(W))) iter.Seq[W] {
	return func(yield func(W) bool) {
		var open queue[W]
		best, known, done := make([]W, size), make([]bool, size), make([]bool, size)
		relax := func(w W) {
			node := w.end()
			if !known[node] || better(w, best[node]) {
				best[node], known[node] = w, true
				open.push(w)
			}
		}
		for _, w := range first {
			relax(w)
		}
		for len(open) > 0 {
			w := open.pop()
			if done[w.end()] {
				continue // what a better way has left behind
			}
			done[w.end()] = true
			if !yield(w) {
				return
			}
			step(w, relax)
		}
	}
}

// better tells whether a way comes ahead of another one.
func better[W ranked](a, b W) bool {
	own, other := a.rank(), b.rank()
	return slices.Compare(own[:], other[:]) < 0
}

// queue is a heap: no way is better than the one above it.
type queue[W ranked] []W

func (q *queue[W]) push(w W) {
	list := append(*q, w)
	*q = list
	for at := len(list) - 1; at > 0 && better(list[at], list[above(at)]); at = above(at) {
		list[at], list[above(at)] = list[above(at)], list[at]
	}
}

// pop takes the best way out of a queue that is not empty.
func (q *queue[W]) pop() W {
	list := *q
	last := len(list) - 1
	best := list[0]
	list[0] = list[last]
	list = list[:last]
	*q = list
	for at := 0; ; {
		below := list.below(at)
		if below >= last || !better(list[below], list[at]) {
			return best
		}
		list[at], list[below] = list[below], list[at]
		at = below
	}
}

// above returns the place above one that is not the first.
func above(at int) int {
	return (at - 1) / 2
}

// below returns the place of the better one of the two ways below a place.
func (q queue[W]) below(at int) int {
	left := 2*at + 1
	if right := left + 1; right < len(q) && better(q[right], q[left]) {
		return right
	}
	return left
}
