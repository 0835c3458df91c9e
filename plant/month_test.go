package plant_test

import (
	"math/rand/v2"
	"testing"

	"hinterland/api"
	"hinterland/plant"
	"hinterland/roll"
)

// hundred is a stream whose first number is below 100 just as wanted.
func hundred(t *testing.T, k int) api.Stream {
	t.Helper()
	return streamOf(t, [2]int{k, 100})
}

// month asks for a month of a plant, and tells whether it is as wanted.
func month(t *testing.T, name string, p api.Plant, s api.Stream, want api.Plant, told, draws int) {
	t.Helper()
	x, n, behind, e := plant.Month(land(), p, s)
	if e != api.OK || n != told || !same(x, want) {
		t.Errorf("%s: %v, told %d, %d; want %v, told %d", name, x, n, e, want, told)
	}
	if behind != after(s, draws) {
		t.Errorf("%s: not %d draws", name, draws)
	}
}

// A source of level 32 with each chance of a hundred, served and not.
func TestP10_4EachChance(t *testing.T) {
	for k := range 100 {
		s := hundred(t, k)
		for _, c := range []struct{ moved, growsBelow, shrinksFrom int }{{60, 40, 90}, {59, 20, 60}} {
			level, told := 32, 0
			if k < c.growsBelow {
				level, told = 36, 1
			}
			if k >= c.shrinksFrom {
				level, told = 28, 2
			}
			p := with(fresh(mine, 32), counts{stock: []int{7}, rest: []int{3}, made: []int{100}, moved: []int{c.moved}})
			want := with(fresh(mine, level), counts{stock: []int{7}, rest: []int{3}})
			month(t, "a chance", p, s, want, told, 1)
		}
	}
}

func TestP10_4EachLevel(t *testing.T) {
	grows, shrinks, stays := hundred(t, 39), hundred(t, 90), hundred(t, 40)
	for level := 1; level <= api.MaxLevel; level++ {
		p := with(fresh(mine, level), counts{made: []int{5}, moved: []int{3}})
		up, down := level+1, level-1
		if level >= 16 {
			up, down = level+level/8, level-level/8
		}
		up, down = min(up, 64), max(down, 1)
		told := 1
		if level == 64 {
			told = 0
		}
		month(t, "up", p, grows, fresh(mine, up), told, 1)
		told = 2
		if level == 1 {
			told = 0
		}
		month(t, "down", p, shrinks, fresh(mine, down), told, 1)
		month(t, "as it is", p, stays, fresh(mine, level), 0, 1)
	}
}

// Whether a source is served is seen by the chance 30, with which only one that
// is served grows.
func TestP10_4Served(t *testing.T) {
	s := hundred(t, 30)
	for name, c := range map[string]struct {
		made, moved [2]int
		served      bool
	}{
		"of both":             {[2]int{50, 50}, [2]int{30, 30}, true},
		"of both, just not":   {[2]int{50, 50}, [2]int{30, 29}, false},
		"one for the other":   {[2]int{100, 0}, [2]int{0, 60}, true},
		"one alone":           {[2]int{100, 100}, [2]int{100, 0}, false},
		"more than was made":  {[2]int{1, 0}, [2]int{1000000, 1000000}, true},
		"the most":            {[2]int{1000000, 1000000}, [2]int{1000000, 200000}, true},
		"the most, just not":  {[2]int{1000000, 1000000}, [2]int{1000000, 199999}, false},
		"three of five":       {[2]int{5, 0}, [2]int{3, 0}, true},
		"not rounded":         {[2]int{7, 0}, [2]int{4, 0}, false},
		"nothing moved":       {[2]int{0, 1}, [2]int{0, 0}, false},
		"the second one made": {[2]int{0, 9}, [2]int{9, 0}, true},
	} {
		p := with(fresh(forest, 16), counts{made: c.made[:], moved: c.moved[:]})
		want, told := fresh(forest, 16), 0
		if c.served {
			want.Level, told = 18, 1
		}
		if c.moved == [2]int{} {
			want.Idle = 1
		}
		month(t, name, p, s, want, told, 1)
	}
}

func TestP10_4NothingDrawn(t *testing.T) {
	s := hundred(t, 0)
	idle := func(n int, p api.Plant) api.Plant {
		p.Idle = n
		return p
	}
	got := func(n int, p api.Plant) api.Plant {
		p.Got = n
		return p
	}
	month(t, "a source that made nothing", fresh(mine, 16), s, idle(1, fresh(mine, 16)), 0, 0)
	month(t, "a source that makes nothing", fresh(hole, 16), s, idle(1, fresh(hole, 16)), 0, 0)
	month(t, "a source with something moved alone", with(fresh(mine, 16), counts{moved: []int{9}}), s, fresh(mine, 16), 0, 0)
	month(t, "a source that got something", got(9, fresh(mine, 16)), s, idle(1, fresh(mine, 16)), 0, 0)
	made := with(fresh(mill, 16), counts{stock: []int{1, 2}, rest: []int{3, 4}, made: []int{50, 60}, moved: []int{50, 60}})
	left := with(fresh(mill, 16), counts{stock: []int{1, 2}, rest: []int{3, 4}})
	month(t, "a works that got something", got(1, idle(70, made)), s, left, 0, 0)
	month(t, "a works that got nothing", made, s, idle(1, left), 0, 0)
	month(t, "a works without makes", got(5, idle(3, fresh(tip, 16))), s, fresh(tip, 16), 0, 0)
	month(t, "idle, but not yet too long", idle(58, fresh(mine, 16)), s, idle(59, fresh(mine, 16)), 0, 0)
	shut := got(6, idle(99, with(fresh(mine, 16), counts{stock: []int{1}, rest: []int{2}, made: []int{3}, moved: []int{4}})))
	shut.Open = false
	month(t, "not open", shut, s, shut, 0, 0)
	month(t, "not open, a works", change(made, func(p *api.Plant) { p.Open = false }), s, change(made, func(p *api.Plant) { p.Open = false }), 0, 0)
}

func TestP10_4Closes(t *testing.T) {
	idle := func(n int, p api.Plant) api.Plant {
		p.Idle = n
		return p
	}
	for k := range 4 {
		s := streamOf(t, [2]int{k, 4})
		ends := func(p api.Plant) (api.Plant, int) {
			p.Open = k != 0
			if k == 0 {
				return p, 3
			}
			return p, 0
		}
		for _, kind := range []int{mine, mill, tip, hole} {
			for _, c := range [][2]int{{59, 60}, {60, 61}, {999999, 1000000}, {1000000, 1000000}} {
				want, told := ends(idle(c[1], fresh(kind, 16)))
				month(t, "idle too long", idle(c[0], fresh(kind, 16)), s, want, told, 1)
			}
			month(t, "not idle so long", idle(58, fresh(kind, 16)), s, idle(59, fresh(kind, 16)), 0, 0)
		}
		full := with(fresh(mill, 16), counts{stock: []int{5, 6}, rest: []int{7, 1}, made: []int{2, 3}, moved: []int{8, 9}})
		want, told := ends(idle(61, with(fresh(mill, 16), counts{stock: []int{5, 6}, rest: []int{7, 1}})))
		month(t, "counts", idle(60, full), s, want, told, 1)
		month(t, "in use again", with(idle(99, fresh(mine, 16)), counts{moved: []int{1}}), s, fresh(mine, 16), 0, 0)
	}
}

// A source that made something and has been idle too long draws its level
// first, and then whether it closes; that it closes is told ahead of its level.
func TestP10_4DrawsTwice(t *testing.T) {
	for _, c := range []struct{ k, level, told int }{{19, 36, 1}, {20, 32, 0}, {59, 32, 0}, {60, 28, 2}} {
		for k := range 4 {
			s := streamOf(t, [2]int{c.k, 100}, [2]int{k, 4})
			p := with(fresh(mine, 32), counts{made: []int{10}})
			p.Idle = 60
			want, told := fresh(mine, c.level), c.told
			want.Idle = 61
			if k == 0 {
				want.Open, told = false, 3
			}
			month(t, "twice", p, s, want, told, 2)
		}
	}
}

func TestP10_4ByTheWords(t *testing.T) {
	chance := rand.New(rand.NewPCG(10, 4))
	var tolds [4]int
	for range 20000 {
		p, s := drawPlant(chance), roll.New(chance.Uint64(), "plants")
		g := give(land(), p)
		x, told, behind, e := plant.Month(g.kinds, g.p, s)
		if want, n, stream := monthOf(land(), p, s); e != api.OK || told != n || behind != stream || !same(x, want) {
			t.Fatalf("%v: %v, %d, %d; want %v, %d", p, x, told, e, want, n)
		}
		if e := plant.Validate(land(), x); e != api.OK {
			t.Fatalf("%v is no plant: %d", x, e)
		}
		g.check(t, x.Stock, x.Rest, x.Made, x.Moved)
		tolds[told]++
	}
	for told, n := range tolds {
		if n < 500 {
			t.Errorf("too few are told %d: %d", told, n)
		}
	}
}
