package plant_test

import (
	"slices"
	"strings"
	"testing"

	"hinterland/api"
	"hinterland/plant"
)

// calls are all functions with kinds, of which those with a plant get p; each
// one tells its error, and whether it returned anything else.
func calls(kinds []api.PlantKind, p api.Plant) map[string]func() (api.Errno, bool) {
	return map[string]func() (api.Errno, bool){
		"Validate": func() (api.Errno, bool) { return plant.Validate(kinds, p), false },
		"Work": func() (api.Errno, bool) {
			x, e := plant.Work(kinds, p)
			return e, !nothing(x)
		},
		"Bring": func() (api.Errno, bool) {
			x, n, e := plant.Bring(kinds, p, -1, -1)
			return e, !nothing(x) || n != 0
		},
		"Haul": func() (api.Errno, bool) {
			x, n, e := plant.Haul(kinds, p, -1, -1)
			return e, !nothing(x) || n != 0
		},
		"Month": func() (api.Errno, bool) {
			x, told, s, e := plant.Month(kinds, p, api.Stream{A: 9})
			return e, !nothing(x) || told != 0 || s != (api.Stream{})
		},
	}
}

// refused asks all functions with a plant for an error.
func refused(t *testing.T, name string, want api.Errno, kinds []api.PlantKind, p api.Plant) {
	t.Helper()
	for f, call := range calls(kinds, p) {
		if e, more := call(); e != want || more {
			t.Errorf("%s, %s: %d, a result: %t; want %d", f, name, e, more, want)
		}
	}
}

// kindsRefused asks all functions with kinds for an error, with other arguments
// that are wrong too.
func kindsRefused(t *testing.T, name string, want api.Errno, kinds []api.PlantKind) {
	t.Helper()
	if e := plant.ValidateKinds(kinds); e != want {
		t.Errorf("ValidateKinds, %s: %d; want %d", name, e, want)
	}
	for _, kind := range []int{-1, len(kinds)} {
		if p, e := plant.New(kinds, kind, -1); e != want || !nothing(p) {
			t.Errorf("New, %s: %v, %d; want %d", name, p, e, want)
		}
		refused(t, name, want, kinds, api.Plant{Kind: kind, Level: -1})
	}
	if takers, makers, e := plant.Chains(kinds, -1); takers != nil || makers != nil || e != want {
		t.Errorf("Chains, %s: %v, %v, %d; want %d", name, takers, makers, e, want)
	}
}

// makes are Makes of some cargoes.
func makes(cargoes ...int) []api.Make {
	var list []api.Make
	for _, c := range cargoes {
		list = append(list, api.Make{Cargo: c, Amount: 1})
	}
	return list
}

func TestP10_1Kinds(t *testing.T) {
	var most []api.PlantKind
	for i := range api.MaxKinds {
		most = append(most, api.PlantKind{Name: string(rune('a' + i))})
	}
	for name, kinds := range map[string][]api.PlantKind{
		"nil":             nil,
		"empty":           {},
		"land":            land(),
		"the least":       {{Name: "a", Takes: []int{}, Makes: []api.Make{}}},
		"the longest":     {{Name: "zzzzzzzzzzzz"}},
		"the most takes":  {{Name: "a", Takes: []int{0, 1, 2, 15}}},
		"the most makes":  {{Name: "a", Makes: makes(0, 3, 14, 15)}},
		"takes and makes": {{Name: "a", Takes: []int{3}, Makes: makes(3)}},
		"Amounts":         {{Name: "a", Makes: []api.Make{{Cargo: 0, Amount: api.MaxAmount}, {Cargo: 1, Amount: 1}}}},
		"alike but names": {{Name: "b", Takes: []int{1}}, {Name: "a", Takes: []int{1}}, {Name: "aa", Takes: []int{1}}},
		"the most":        most,
	} {
		if e := plant.ValidateKinds(kinds); e != api.OK {
			t.Errorf("%s: %d", name, e)
		}
	}
}

// badKinds have a field each that no kind may have.
func badKinds() map[string]api.PlantKind {
	amounts := func(list ...int) api.PlantKind {
		k := api.PlantKind{Name: "mine"}
		for i, n := range list {
			k.Makes = append(k.Makes, api.Make{Cargo: i, Amount: n})
		}
		return k
	}
	return map[string]api.PlantKind{
		"no name":                   {},
		"a letter too many":         {Name: strings.Repeat("a", api.MaxName+1)},
		"a great letter":            {Name: "minE"},
		"a digit":                   {Name: "mine2"},
		"a space in front":          {Name: " mine"},
		"the byte below a":          {Name: "mi`ne"},
		"the byte above z":          {Name: "mi{ne"},
		"a letter with a dot":       {Name: "m\u00f6ne"},
		"a broken letter":           {Name: "mine\xff"},
		"the byte 0":                {Name: "\x00"},
		"a cargo taken too low":     {Name: "mine", Takes: []int{-1}},
		"a cargo taken too high":    {Name: "mine", Takes: []int{api.MaxKinds}},
		"the lowest taken":          {Name: "mine", Takes: []int{minInt}},
		"the highest taken":         {Name: "mine", Takes: []int{1, maxInt}},
		"too many taken":            {Name: "mine", Takes: []int{0, 1, 2, 3, 4}},
		"one taken twice":           {Name: "mine", Takes: []int{1, 1}},
		"falling ones taken":        {Name: "mine", Takes: []int{1, 2, 0}},
		"a cargo made too low":      {Name: "mine", Makes: makes(-1)},
		"a cargo made too high":     {Name: "mine", Makes: makes(api.MaxKinds)},
		"the lowest made":           {Name: "mine", Makes: makes(minInt)},
		"the highest made":          {Name: "mine", Makes: makes(1, maxInt)},
		"too many made":             {Name: "mine", Makes: makes(0, 1, 2, 3, 4)},
		"one made twice":            {Name: "mine", Makes: []api.Make{{Cargo: 1, Amount: 1}, {Cargo: 1, Amount: 2}}},
		"falling ones made":         {Name: "mine", Makes: makes(1, 2, 0)},
		"an Amount too low":         amounts(0),
		"an Amount too high":        amounts(api.MaxAmount + 1),
		"the lowest Amount":         amounts(1, minInt),
		"the highest Amount":        amounts(1, 1, 1, maxInt),
		"an Amount below 0, behind": amounts(1, -1),
	}
}

func TestP10_1KindsErrors(t *testing.T) {
	for name, k := range badKinds() {
		kindsRefused(t, name, api.ErrArg, []api.PlantKind{k})
		kindsRefused(t, name+" behind names that are twice", api.ErrArg, []api.PlantKind{{Name: "farm"}, {Name: "farm"}, k})
	}
	kindsRefused(t, "twice", api.ErrTwice, []api.PlantKind{{Name: "farm"}, {Name: "farm"}})
	kindsRefused(t, "twice, apart", api.ErrTwice, []api.PlantKind{{Name: "farm", Takes: []int{1}}, {Name: "mine"}, {Name: "farm", Takes: []int{2}}})
	kindsRefused(t, "too many", api.ErrLarge, make([]api.PlantKind, api.MaxKinds+1))
	kindsRefused(t, "too many good ones", api.ErrLarge, slices.Repeat([]api.PlantKind{{Name: "farm"}}, api.MaxKinds+1))
}

func TestP10_1Validate(t *testing.T) {
	full := api.Plant{
		Kind: forest, Tile: api.MaxNumber, Level: api.MaxLevel, Got: api.MaxCount, Idle: api.MaxCount,
		Stock: []int{api.MaxCount, api.MaxCount}, Rest: []int{7, 7}, Made: []int{api.MaxCount, api.MaxCount}, Moved: []int{api.MaxCount, api.MaxCount},
	}
	least := fresh(mine, 1)
	least.Tile = 0
	for name, p := range map[string]api.Plant{
		"the least":                  least,
		"the greatest":               full,
		"the greatest, open":         change(full, func(p *api.Plant) { p.Open = true }),
		"a works":                    fresh(mill, 9),
		"a works that is full":       change(full, func(p *api.Plant) { p.Kind = mill }),
		"the last kind, nil lists":   {Kind: hole, Level: 1},
		"empty lists":                {Kind: tip, Level: 1, Stock: []int{}, Rest: []int{}, Made: []int{}, Moved: []int{}},
		"some lists nil, some empty": {Kind: tip, Level: 1, Rest: []int{}, Moved: []int{}},
	} {
		if e := plant.Validate(land(), p); e != api.OK {
			t.Errorf("%s: %d", name, e)
		}
	}
}

func TestP10_1ValidateErrors(t *testing.T) {
	good := fresh(forest, 16)
	for name, f := range map[string]func(p *api.Plant){
		"a Tile too low":     func(p *api.Plant) { p.Tile = -1 },
		"a Tile too high":    func(p *api.Plant) { p.Tile = api.MaxNumber + 1 },
		"the lowest Tile":    func(p *api.Plant) { p.Tile = minInt },
		"the highest Tile":   func(p *api.Plant) { p.Tile = maxInt },
		"a Level too low":    func(p *api.Plant) { p.Level = 0 },
		"a Level too high":   func(p *api.Plant) { p.Level = api.MaxLevel + 1 },
		"the lowest Level":   func(p *api.Plant) { p.Level = minInt },
		"the highest Level":  func(p *api.Plant) { p.Level = maxInt },
		"a Got too low":      func(p *api.Plant) { p.Got = -1 },
		"a Got too high":     func(p *api.Plant) { p.Got = api.MaxCount + 1 },
		"an Idle too low":    func(p *api.Plant) { p.Idle = -1 },
		"an Idle too high":   func(p *api.Plant) { p.Idle = api.MaxCount + 1 },
		"a Rest of a whole":  func(p *api.Plant) { p.Rest[1] = 8 },
		"a Rest for a Stock": func(p *api.Plant) { p.Rest[0] = api.MaxCount },
	} {
		refused(t, name, api.ErrArg, land(), change(good, f))
	}
	for i, name := range []string{"Stock", "Rest", "Made", "Moved"} {
		for wrong, f := range map[string]func(list *[]int){
			"too short": func(list *[]int) { *list = (*list)[:1] },
			"nil":       func(list *[]int) { *list = nil },
			"too long":  func(list *[]int) { *list = append(*list, 0) },
			"too low":   func(list *[]int) { (*list)[0] = -1 },
			"too high":  func(list *[]int) { (*list)[1] = api.MaxCount + 1 },
			"lowest":    func(list *[]int) { (*list)[1] = minInt },
			"highest":   func(list *[]int) { (*list)[0] = maxInt },
		} {
			p := change(good, func(p *api.Plant) { f(lists(p)[i]) })
			refused(t, name+" "+wrong, api.ErrArg, land(), p)
		}
		p := fresh(tip, 1)
		*lists(&p)[i] = []int{0}
		refused(t, name+" of a kind that makes nothing", api.ErrArg, land(), p)
	}
}

func TestP10_1ValidateNoKind(t *testing.T) {
	for _, kind := range []int{-1, len(land()), minInt, maxInt} {
		p := fresh(mine, 16)
		p.Kind = kind
		refused(t, "no kind", api.ErrNone, land(), p)
		refused(t, "no kind, and other errors", api.ErrNone, land(), api.Plant{Kind: kind, Tile: -1})
	}
	refused(t, "no kinds", api.ErrNone, nil, api.Plant{Level: 1})
}

func TestP10_1New(t *testing.T) {
	for kind, k := range land() {
		for _, tile := range []int{0, 77, api.MaxNumber} {
			n := len(k.Makes)
			want := api.Plant{
				Kind: kind, Tile: tile, Level: 16, Open: true,
				Stock: make([]int, n), Rest: make([]int, n), Made: make([]int, n), Moved: make([]int, n),
			}
			g := give(land(), api.Plant{})
			p, e := plant.New(g.kinds, kind, tile)
			if e != api.OK || !same(p, want) {
				t.Errorf("%s at %d: %v, %d", k.Name, tile, p, e)
			}
			if e := plant.Validate(land(), p); e != api.OK {
				t.Errorf("%s at %d is no plant: %d", k.Name, tile, e)
			}
			g.check(t, p.Stock, p.Rest, p.Made, p.Moved)
		}
	}
}

func TestP10_1NewErrors(t *testing.T) {
	for _, c := range []struct {
		kinds      []api.PlantKind
		kind, tile int
		want       api.Errno
	}{
		{land(), -1, 0, api.ErrNone},
		{land(), len(land()), 0, api.ErrNone},
		{land(), minInt, 0, api.ErrNone},
		{land(), maxInt, 0, api.ErrNone},
		{land(), -1, -1, api.ErrNone},
		{nil, 0, 0, api.ErrNone},
		{land(), 0, -1, api.ErrArg},
		{land(), 0, api.MaxNumber + 1, api.ErrArg},
		{land(), 0, minInt, api.ErrArg},
		{land(), 0, maxInt, api.ErrArg},
	} {
		if p, e := plant.New(c.kinds, c.kind, c.tile); e != c.want || !nothing(p) {
			t.Errorf("%d at %d: %v, %d; want %d", c.kind, c.tile, p, e, c.want)
		}
	}
}

func TestP10_5ByHand(t *testing.T) {
	for cargo, want := range map[int][2][]int{
		0:  {{wharf}, nil},
		1:  {{mill, tip}, {mine}},
		2:  {{mill}, {forest}},
		3:  {{wharf}, {forest, wharf}},
		4:  {{tip}, {mill}},
		5:  {{tip, wharf}, {mill, wharf}},
		6:  {nil, nil},
		15: {{wharf}, nil},
	} {
		g := give(land(), api.Plant{})
		takers, makers, e := plant.Chains(g.kinds, cargo)
		if e != api.OK || !slices.Equal(takers, want[0]) || !slices.Equal(makers, want[1]) {
			t.Errorf("%d: %v, %v, %d; want %v", cargo, takers, makers, e, want)
		}
		g.check(t, takers, makers)
	}
	if takers, makers, e := plant.Chains(nil, 15); takers != nil || makers != nil || e != api.OK {
		t.Error("of no kinds:", takers, makers, e)
	}
}

func TestP10_5AllPlaces(t *testing.T) {
	var kinds []api.PlantKind
	var all []int
	for i := range api.MaxKinds {
		kinds = append(kinds, api.PlantKind{Name: string(rune('p' - i)), Takes: []int{0, 9}, Makes: makes(8, 9)})
		all = append(all, i)
	}
	for cargo, want := range map[int][2][]int{0: {all, nil}, 8: {nil, all}, 9: {all, all}, 10: {nil, nil}} {
		takers, makers, e := plant.Chains(kinds, cargo)
		if e != api.OK || !slices.Equal(takers, want[0]) || !slices.Equal(makers, want[1]) {
			t.Errorf("%d: %v, %v, %d", cargo, takers, makers, e)
		}
	}
}

func TestP10_5Errors(t *testing.T) {
	for _, cargo := range []int{-1, api.MaxKinds, minInt, maxInt} {
		if takers, makers, e := plant.Chains(land(), cargo); takers != nil || makers != nil || e != api.ErrArg {
			t.Errorf("%d: %v, %v, %d", cargo, takers, makers, e)
		}
	}
}
