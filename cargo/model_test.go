package cargo_test

import (
	"cmp"
	"math"
	"math/big"
	"math/rand/v2"
	"slices"
	"testing"

	"hinterland/api"
)

const (
	minInt = math.MinInt
	maxInt = math.MaxInt
)

// order puts parcels in the order of the chapter: by Kind, From, Tile, Age.
func order(a, b api.Parcel) int {
	return cmp.Or(cmp.Compare(a.Kind, b.Kind), cmp.Compare(a.From, b.From), cmp.Compare(a.Tile, b.Tile), cmp.Compare(a.Age, b.Age))
}

// draw is a load of at most n parcels by chance, many of them nearly alike, of
// up to kinds kinds.
func draw(chance *rand.Rand, n, kinds int) []api.Parcel {
	var load []api.Parcel
	for range chance.IntN(n + 1) {
		p := api.Parcel{
			Kind: chance.IntN(kinds), From: chance.IntN(2), Tile: chance.IntN(3), Age: chance.IntN(5),
			Count: 1 + chance.IntN(20), Share: chance.IntN(100),
		}
		if chance.IntN(3) == 0 {
			p.Age = api.MaxAge - p.Age
		}
		if !slices.ContainsFunc(load, func(q api.Parcel) bool { return order(p, q) == 0 }) {
			load = append(load, p)
		}
	}
	slices.SortFunc(load, order)
	return load
}

// goods are the cargoes of a list by chance.
func goods(chance *rand.Rand, n int) []api.Cargo {
	var cargoes []api.Cargo
	for i := range n {
		cargoes = append(cargoes, api.Cargo{
			Name: string(rune('a' + i)), Rate: chance.IntN(api.MaxRate + 1), Fast: chance.IntN(api.MaxAge + 1), Slow: chance.IntN(api.MaxAge + 1),
		})
	}
	return cargoes
}

// crowd is a load of n parcels with the numbers of tiles from first on.
func crowd(n, first int, p api.Parcel) []api.Parcel {
	var load []api.Parcel
	for i := range n {
		p.Tile = first + i
		load = append(load, p)
	}
	return load
}

// joinOf are the parcels of some loads, of which those that are alike are laid
// together one behind the other.
func joinOf(loads ...[]api.Parcel) []api.Parcel {
	var all []api.Parcel
	for _, load := range loads {
		for _, p := range load {
			i := slices.IndexFunc(all, func(q api.Parcel) bool { return order(p, q) == 0 })
			if i < 0 {
				all = append(all, p)
				continue
			}
			all[i].Count += p.Count
			all[i].Share += p.Share
		}
	}
	slices.SortFunc(all, order)
	return all
}

// takeOf is Take unit by unit: each one is of the first parcel among the oldest
// that has any left.
func takeOf(load []api.Parcel, kind, n int) (taken, left []api.Parcel) {
	units := make([]int, len(load))
	for range n {
		best := -1
		for i, p := range load {
			if p.Kind == kind && units[i] < p.Count && (best < 0 || p.Age > load[best].Age) {
				best = i
			}
		}
		if best < 0 {
			break
		}
		units[best]++
	}
	for i, p := range load {
		gone, kept := p, p
		gone.Count, kept.Count = units[i], p.Count-units[i]
		gone.Share = over(p.Count, p.Share, units[i])
		kept.Share -= gone.Share
		if gone.Count > 0 {
			taken = append(taken, gone)
		}
		if kept.Count > 0 {
			left = append(left, kept)
		}
	}
	return taken, left
}

// olderOf is Older day by day.
func olderOf(load []api.Parcel, days int) []api.Parcel {
	for range days {
		aged := slices.Clone(load)
		for i := range aged {
			if aged[i].Age < api.MaxAge {
				aged[i].Age++
			}
		}
		load = joinOf(aged)
	}
	return load
}

// over is the product of some numbers divided by n, rounded down, without a
// limit on the way.
func over(n int, factors ...int) int {
	product := big.NewInt(1)
	for _, f := range factors {
		product.Mul(product, big.NewInt(int64(f)))
	}
	return int(product.Div(product, big.NewInt(int64(n))).Int64())
}

// payOf is Pay with f taken down day by day.
func payOf(c api.Cargo, count, far, days int) int {
	f := 255
	for day := 1; day <= days; day++ {
		if day > c.Fast {
			f--
		}
		if day > c.Fast+c.Slow {
			f--
		}
	}
	return min(over(4096, c.Rate, count, far, max(f, 31)), api.MaxMoney)
}

// farOf goes from a tile to another one on a map with w columns, step by step.
func farOf(w, from, to int) int {
	steps := 0
	for ; from%w < to%w; from++ {
		steps++
	}
	for ; from%w > to%w; from-- {
		steps++
	}
	for ; from < to; from += w {
		steps++
	}
	for ; from > to; from -= w {
		steps++
	}
	return steps
}

// counted are the units of each kind of some loads, and what they were promised.
func counted(loads ...[]api.Parcel) (units [4]int, shares [4]int) {
	for _, load := range loads {
		for _, p := range load {
			units[p.Kind] += p.Count
			shares[p.Kind] += p.Share
		}
	}
	return units, shares
}

// given are loads as they were given to a call, with parcels behind them that
// no call may touch.
type given struct{ loads, own [][]api.Parcel }

func give(loads ...[]api.Parcel) given {
	var g given
	for _, load := range loads {
		long := append(slices.Clone(load), api.Parcel{Kind: -7}, api.Parcel{Kind: -8})
		g.loads = append(g.loads, long[:len(load)])
		g.own = append(g.own, slices.Clone(long))
	}
	return g
}

// check tells whether a call has changed what it was given, or whether what it
// returned shares memory with that or with each other.
func (g given) check(t *testing.T, results ...[]api.Parcel) {
	t.Helper()
	kept := make([][]api.Parcel, len(results))
	for i, load := range results {
		kept[i] = slices.Clone(load)
	}
	for i, load := range results {
		load = load[:cap(load)]
		for j := range load {
			load[j] = api.Parcel{Kind: -9}
		}
		for j := i + 1; j < len(results); j++ {
			if !slices.Equal(results[j], kept[j]) {
				t.Error("results share memory")
			}
		}
	}
	for i, load := range g.loads {
		if !slices.Equal(load[:len(g.own[i])], g.own[i]) {
			t.Error("an argument is changed")
		}
	}
}
