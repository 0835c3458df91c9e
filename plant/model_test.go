package plant_test

import (
	"math"
	"math/rand/v2"
	"reflect"
	"slices"
	"testing"

	"hinterland/api"
	"hinterland/roll"
)

const (
	minInt = math.MinInt
	maxInt = math.MaxInt
)

// The places of the kinds of land.
const (
	mine = iota
	forest
	mill
	tip
	wharf
	hole
)

// land are two sources, a works, a works that makes nothing, a works that takes
// what it makes, and a source that makes nothing.
func land() []api.PlantKind {
	return []api.PlantKind{
		mine:   {Name: "mine", Makes: []api.Make{{Cargo: 1, Amount: 10}}},
		forest: {Name: "forest", Makes: []api.Make{{Cargo: 2, Amount: 7}, {Cargo: 3, Amount: 100}}},
		mill:   {Name: "mill", Takes: []int{1, 2}, Makes: []api.Make{{Cargo: 4, Amount: 4}, {Cargo: 5, Amount: 9}}},
		tip:    {Name: "tip", Takes: []int{1, 4, 5}},
		wharf:  {Name: "wharf", Takes: []int{0, 3, 5, 15}, Makes: []api.Make{{Cargo: 3, Amount: 8}, {Cargo: 5, Amount: 1}}},
		hole:   {Name: "hole"},
	}
}

// fresh is an open plant of a kind of land, of a level, with counts of 0.
func fresh(kind, level int) api.Plant {
	n := len(land()[kind].Makes)
	return api.Plant{
		Kind: kind, Tile: 5, Level: level, Open: true,
		Stock: make([]int, n), Rest: make([]int, n), Made: make([]int, n), Moved: make([]int, n),
	}
}

// change is a plant with a change.
func change(p api.Plant, f func(p *api.Plant)) api.Plant {
	p = own(p)
	f(&p)
	return p
}

// own is a plant with lists of its own; empty ones become nil.
func own(p api.Plant) api.Plant {
	for _, list := range lists(&p) {
		*list = append([]int(nil), *list...)
	}
	return p
}

func lists(p *api.Plant) []*[]int {
	return []*[]int{&p.Stock, &p.Rest, &p.Made, &p.Moved}
}

// same tells whether two plants are the same value: a nil list is an empty one.
func same(a, b api.Plant) bool {
	return reflect.DeepEqual(own(a), own(b))
}

// nothing tells whether a plant is the zero value.
func nothing(p api.Plant) bool {
	return same(p, api.Plant{})
}

// drawCount is a count by chance, often near one of its bounds.
func drawCount(chance *rand.Rand) int {
	switch chance.IntN(4) {
	case 0:
		return 0
	case 1:
		return api.MaxCount - chance.IntN(30)
	case 2:
		return chance.IntN(api.MaxCount + 1)
	}
	return chance.IntN(100)
}

// drawPlant is a plant of land by chance.
func drawPlant(chance *rand.Rand) api.Plant {
	p := fresh(chance.IntN(len(land())), 1+chance.IntN(api.MaxLevel))
	p.Tile = chance.IntN(api.MaxNumber + 1)
	for i := range p.Stock {
		p.Stock[i] = drawCount(chance)
		p.Rest[i] = chance.IntN(8)
		p.Made[i] = drawCount(chance)
		p.Moved[i] = drawCount(chance)
	}
	p.Got = drawCount(chance)
	p.Idle = []int{0, 58, 59, 60, 61, drawCount(chance)}[chance.IntN(6)]
	p.Open = chance.IntN(5) > 0
	return p
}

// more adds 1 to a count, if it can, n times.
func more(count *int, n int) {
	for range n {
		if *count < api.MaxCount {
			*count++
		}
	}
}

// workOf is Work, unit by unit: what a level makes is counted in sixteenths.
func workOf(kinds []api.PlantKind, p api.Plant) api.Plant {
	p = own(p)
	k := kinds[p.Kind]
	if len(k.Takes) > 0 || !p.Open {
		return p
	}
	for i, m := range k.Makes {
		for sixteenths := m.Amount * p.Level; sixteenths >= 16; sixteenths -= 16 {
			if p.Stock[i] == api.MaxCount {
				break
			}
			p.Stock[i]++
			more(&p.Made[i], 1)
		}
	}
	return p
}

// bringOf is Bring, unit by unit: each one is made into eighths of what a plant
// makes.
func bringOf(kinds []api.PlantKind, p api.Plant, cargo, n int) (api.Plant, int) {
	p = own(p)
	k := kinds[p.Kind]
	takes := false
	for _, c := range k.Takes {
		takes = takes || c == cargo
	}
	if !takes || !p.Open {
		return p, 0
	}
	for range n {
		more(&p.Got, 1)
		for i, m := range k.Makes {
			p.Rest[i] += m.Amount
			for p.Rest[i] >= 8 {
				p.Rest[i] -= 8
				more(&p.Stock[i], 1)
				more(&p.Made[i], 1)
			}
		}
	}
	return p, n
}

// haulOf is Haul, unit by unit.
func haulOf(kinds []api.PlantKind, p api.Plant, cargo, n int) (api.Plant, int) {
	p = own(p)
	taken := 0
	for i, m := range kinds[p.Kind].Makes {
		for m.Cargo == cargo && taken < n && p.Stock[i] > 0 {
			p.Stock[i]--
			more(&p.Moved[i], 1)
			taken++
		}
	}
	return p, taken
}

// monthOf is Month, sentence by sentence.
func monthOf(kinds []api.PlantKind, p api.Plant, s api.Stream) (api.Plant, int, api.Stream) {
	p = own(p)
	if !p.Open {
		return p, 0, s
	}
	source := len(kinds[p.Kind].Takes) == 0
	made, moved := 0, 0
	for i := range p.Made {
		made += p.Made[i]
		moved += p.Moved[i]
	}
	if source && moved > 0 || !source && p.Got > 0 {
		p.Idle = 0
	} else {
		more(&p.Idle, 1)
	}
	told := 0
	if source && made > 0 {
		var k int
		k, s = roll.Below(s, 100)
		before := p.Level
		eighth := p.Level / 8
		if eighth == 0 {
			eighth = 1
		}
		switch served := moved*100 >= made*60; {
		case served && k < 40, !served && k < 20:
			p.Level += eighth
		case served && k >= 90, !served && k >= 60:
			p.Level -= eighth
		}
		if p.Level > api.MaxLevel {
			p.Level = api.MaxLevel
		}
		if p.Level < 1 {
			p.Level = 1
		}
		if p.Level > before {
			told = 1
		}
		if p.Level < before {
			told = 2
		}
	}
	if p.Idle >= 60 {
		var k int
		k, s = roll.Below(s, 4)
		if k == 0 {
			p.Open = false
			told = 3
		}
	}
	for i := range p.Made {
		p.Made[i], p.Moved[i] = 0, 0
	}
	p.Got = 0
	return p, told, s
}

// streamOf is a stream whose first numbers are below some n just as wanted: of
// each pair a number and its n.
func streamOf(t *testing.T, pairs ...[2]int) api.Stream {
	t.Helper()
search:
	for seed := range uint64(1000000) {
		s := roll.New(seed, "plants")
		after := s
		for _, pair := range pairs {
			var k int
			k, after = roll.Below(after, pair[1])
			if k != pair[0] {
				continue search
			}
		}
		return s
	}
	t.Fatal("no stream draws", pairs)
	return api.Stream{}
}

// after is the stream behind n draws that were accepted at once.
func after(s api.Stream, n int) api.Stream {
	for range n {
		_, s = roll.Next(s)
	}
	return s
}

// given are arguments as they were given to a call, with elements behind the
// lists that no call may touch.
type given struct {
	kinds     []api.PlantKind
	kept      []api.PlantKind
	p         api.Plant
	keptPlant [][]int
}

func give(kinds []api.PlantKind, p api.Plant) *given {
	g := &given{kept: kinds, p: p}
	for _, k := range kinds {
		k.Takes = longer(k.Takes)
		k.Makes = append(slices.Clone(k.Makes), api.Make{Cargo: -7})[:len(k.Makes)]
		g.kinds = append(g.kinds, k)
	}
	for _, list := range lists(&g.p) {
		*list = longer(*list)
		g.keptPlant = append(g.keptPlant, slices.Clone((*list)[:len(*list)+1]))
	}
	return g
}

// longer is a copy of a list with one element behind it in its memory.
func longer(list []int) []int {
	return append(slices.Clone(list), -7)[:len(list)]
}

// check tells whether a call has changed what it was given, and then whether
// the lists that it returned share memory with that or with each other.
func (g *given) check(t *testing.T, results ...[]int) {
	t.Helper()
	g.unchanged(t, "an argument is changed")
	var kept [][]int
	for _, list := range results {
		kept = append(kept, slices.Clone(list))
	}
	for i, list := range results {
		list = list[:cap(list)]
		for j := range list {
			list[j] = -9
		}
		for j := i + 1; j < len(results); j++ {
			if !slices.Equal(results[j], kept[j]) {
				t.Error("results share memory")
			}
		}
	}
	g.unchanged(t, "a result shares memory with an argument")
}

func (g *given) unchanged(t *testing.T, wrong string) {
	t.Helper()
	for i, k := range g.kinds {
		want := g.kept[i]
		takes, makes := k.Takes[:len(k.Takes)+1], k.Makes[:len(k.Makes)+1]
		ends := takes[len(k.Takes)] == -7 && makes[len(k.Makes)] == api.Make{Cargo: -7}
		if k.Name != want.Name || !slices.Equal(k.Takes, want.Takes) || !slices.Equal(k.Makes, want.Makes) || !ends {
			t.Error(wrong, k)
		}
	}
	for i, list := range lists(&g.p) {
		if !slices.Equal((*list)[:len(*list)+1], g.keptPlant[i]) {
			t.Error(wrong, *list)
		}
	}
}
