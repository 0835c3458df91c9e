package route_test

import (
	"math/rand/v2"
	"slices"
	"testing"

	"hinterland/api"
	"hinterland/route"
)

// soundGuess is a guess for the ways to a node that never says too much: the
// least cost, or some part of it.
func soundGuess(chance *rand.Rand, n int, edges []api.Edge, to int) []int {
	costs, most := allOf(n, edges), 1+chance.IntN(3)
	guess := make([]int, n)
	for node := range n {
		// Where no way leads to the node, all may be guessed that is not less
		// than any other guess.
		guess[node] = min(costs[node][to], api.MaxCost) / most
	}
	return guess
}

func TestP8_3SoundByHand(t *testing.T) {
	edges := []api.Edge{{From: 0, To: 1, Cost: 3}, {From: 1, To: 2, Cost: 4}, {From: 0, To: 2, Cost: 6}, {From: 2, To: 2, Cost: 0}}
	for _, c := range []struct {
		to    int
		guess []int
		want  bool
	}{
		{2, []int{0, 0, 0, 0}, true},
		{2, []int{6, 4, 0, 0}, true},
		{2, []int{6, 3, 0, api.MaxCost}, true},
		{2, []int{7, 4, 0, 0}, false},
		{2, []int{6, 2, 0, 0}, false},
		{2, []int{6, 5, 0, 0}, false},
		{2, []int{6, 4, 1, 0}, false},
		{1, []int{3, 0, 0, 0}, true},
		{1, []int{3, 1, 0, 0}, false},
		{0, []int{0, 9, 5, 8}, true},
		{3, []int{0, 0, 0, 1}, false},
	} {
		if ok, e := route.Sound(4, edges, c.to, c.guess); e != api.OK || ok != c.want {
			t.Errorf("to %d, %v: %t, %d; want %t", c.to, c.guess, ok, e, c.want)
		}
	}
}

func TestP8_3SoundByTheWords(t *testing.T) {
	chance := rand.New(rand.NewPCG(8, 3))
	var count [2]int
	for range 4000 {
		n := 1 + chance.IntN(5)
		edges := tangle(chance, n, chance.IntN(n+1), 4)
		guess, to := drawn(chance, n, chance.IntN(4)), chance.IntN(n)
		want := guess[to] <= 0
		for _, e := range edges {
			want = want && guess[e.From] <= e.Cost+guess[e.To]
		}
		g := give(edges, guess)
		if ok, e := route.Sound(n, edges, to, guess); e != api.OK || ok != want {
			t.Fatalf("%d nodes, %v, to %d, %v: %t, %d", n, edges, to, guess, ok, e)
		}
		g.check(t)
		if want {
			count[0]++
		} else {
			count[1]++
		}
	}
	if min(count[0], count[1]) < 1000 {
		t.Error("too few of one kind:", count)
	}
}

func TestP8_3GuidedByHand(t *testing.T) {
	// From 0 to 4 by 1 for 2, by 2 for 3, by 3 for 4.
	edges := []api.Edge{
		{From: 0, To: 1, Cost: 1}, {From: 0, To: 2, Cost: 2}, {From: 0, To: 3, Cost: 3},
		{From: 1, To: 4, Cost: 1}, {From: 2, To: 4, Cost: 1}, {From: 3, To: 4, Cost: 1}, {From: 4, To: 5, Cost: 1},
	}
	for name, c := range map[string]struct {
		from, to    int
		guess       []int
		cost, taken int
		ok          bool
	}{
		"without a guess":                      {0, 4, []int{0, 0, 0, 0, 0, 0}, 2, 4, true},
		"all that it costs":                    {0, 4, []int{2, 1, 1, 1, 0, 9}, 2, 3, true},
		"too much for 1":                       {0, 4, []int{0, 9, 0, 0, 0, 0}, 3, 4, true},
		"too much for 1, 2":                    {0, 4, []int{0, 9, 9, 0, 0, 0}, 4, 3, true},
		"most for all":                         {0, 4, slices.Repeat([]int{api.MaxCost}, 6), 2, 4, true},
		"of one sum and cost the least number": {0, 4, []int{3, 3, 2, 1, 2, 0}, 2, 4, true},
		"begin and end":                        {3, 3, []int{0, 0, 0, 7, 0, 0}, 0, 1, true},
		"no way":                               {4, 0, []int{0, 0, 0, 0, 0, 0}, 0, 2, false},
		"no way from the last":                 {5, 1, []int{0, 0, 0, 0, 0, 0}, 0, 1, false},
	} {
		cost, taken, ok, e := route.Guided(6, edges, c.from, c.to, c.guess)
		if e != api.OK || cost != c.cost || taken != c.taken || ok != c.ok {
			t.Errorf("%s: %d, %d, %t, %d; want %d, %d, %t", name, cost, taken, ok, e, c.cost, c.taken, c.ok)
		}
	}
}

func TestP8_3GuidedLeastCostFirst(t *testing.T) {
	// The sum of 1 is that of 2, but 2 costs less, and so does 3 behind it.
	edges := []api.Edge{{From: 0, To: 1, Cost: 3}, {From: 0, To: 2, Cost: 1}, {From: 2, To: 3, Cost: 1}}
	if cost, taken, ok, e := route.Guided(4, edges, 0, 3, []int{3, 0, 2, 1}); cost != 2 || taken != 3 || !ok || e != api.OK {
		t.Error(cost, taken, ok, e)
	}
}

func TestP8_3GuidedNeverTwice(t *testing.T) {
	// 2 is taken up for 2 first; when 1 is taken up it could be had for 1, and
	// so 3 for less.
	edges := []api.Edge{{From: 0, To: 1, Cost: 0}, {From: 0, To: 2, Cost: 2}, {From: 1, To: 2, Cost: 1}, {From: 2, To: 3, Cost: 5}}
	if cost, taken, ok, e := route.Guided(4, edges, 0, 3, []int{0, 4, 0, 0}); cost != 7 || taken != 4 || !ok || e != api.OK {
		t.Error(cost, taken, ok, e)
	}
}

func TestP8_3GuidedByTheWords(t *testing.T) {
	chance := rand.New(rand.NewPCG(8, 33))
	wrong, none := 0, 0
	for range 6000 {
		n := 1 + chance.IntN(12)
		edges := tangle(chance, n, chance.IntN(6*n), 1+chance.IntN(6))
		guess := drawn(chance, n, chance.IntN(20))
		from, to := chance.IntN(n), chance.IntN(n)
		g := give(edges, guess)
		cost, taken, ok, e := route.Guided(n, edges, from, to, guess)
		c, k, found := guidedOf(n, edges, from, to, guess)
		if e != api.OK || cost != c || taken != k || ok != found {
			t.Fatalf("%d nodes, %v, from %d to %d, %v: %d, %d, %t, %d; want %d, %d, %t", n, edges, from, to, guess, cost, taken, ok, e, c, k, found)
		}
		g.check(t)
		switch {
		case !ok:
			none++
		case cost > least(t, n, edges, []int{from}, []int{to}).cost:
			wrong++
		}
	}
	if wrong < 100 || none < 100 {
		t.Error("too few guesses lead astray, or nowhere:", wrong, none)
	}
}

func TestP8_3Errors(t *testing.T) {
	edges := []api.Edge{{From: 0, To: 1}}
	others := []string{"Validate", "Least", "All", "Regions", "Strong", "Next"}
	for name, c := range map[string]struct {
		guess []int
		want  api.Errno
	}{
		"no guesses":                {nil, api.ErrFit},
		"a guess too few":           {[]int{-1}, api.ErrFit},
		"a guess too many":          {[]int{0, 0, api.MaxCost + 1}, api.ErrFit},
		"a guess too low":           {[]int{0, -1}, api.ErrArg},
		"a guess too high":          {[]int{api.MaxCost + 1, 0}, api.ErrArg},
		"the lowest guess of all":   {[]int{0, minInt}, api.ErrArg},
		"the highest guess of all":  {[]int{maxInt, 0}, api.ErrArg},
		"guesses that are all high": {[]int{maxInt, maxInt}, api.ErrArg},
	} {
		refused(t, name, c.want, calls(2, edges, 0, 1, c.guess), others...)
	}
}

func TestP8_3Greatest(t *testing.T) {
	edges := slices.Repeat(ring(api.MaxNodes, api.MaxCost), 4)
	guess := slices.Repeat([]int{api.MaxCost}, api.MaxNodes)
	if cost, taken, ok, e := route.Guided(api.MaxNodes, edges, 0, 999, guess); cost != 999*api.MaxCost || taken != 1000 || !ok || e != api.OK {
		t.Error(cost, taken, ok, e)
	}
	if ok, e := route.Sound(api.MaxNodes, edges, 999, guess); ok || e != api.OK {
		t.Error("Sound", ok, e)
	}
	guess[999] = 0
	if ok, e := route.Sound(api.MaxNodes, edges, 999, guess); !ok || e != api.OK {
		t.Error("Sound to a node with the guess 0", ok, e)
	}
}

func TestS8Guided(t *testing.T) {
	chance := rand.New(rand.NewPCG(8, 8))
	ways, sooner := 0, 0
	for range 400 {
		n := 2 + chance.IntN(40)
		edges := tangle(chance, n, n+chance.IntN(3*n), 1+chance.IntN(50))
		from, to := chance.IntN(n), chance.IntN(n)
		guess := soundGuess(chance, n, edges, to)
		if ok, e := route.Sound(n, edges, to, guess); !ok || e != api.OK {
			t.Fatal("Sound", ok, e)
		}
		cost, taken, ok, e := route.Guided(n, edges, from, to, guess)
		_, want, found, _ := route.Least(n, edges, []int{from}, []int{to})
		_, all, _, _ := route.Guided(n, edges, from, to, make([]int, n))
		if e != api.OK || ok != found || cost != want || taken > n {
			t.Fatalf("%d nodes, %v, from %d to %d, %v: %d, %t, %d; want %d, %t", n, edges, from, to, guess, cost, ok, e, want, found)
		}
		if ok {
			ways++
		}
		if taken < all {
			sooner++
		}
	}
	if ways < 100 || sooner < 100 {
		t.Error("too few ways:", ways, sooner)
	}
}
