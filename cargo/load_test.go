package cargo_test

import (
	"math/rand/v2"
	"slices"
	"testing"

	"hinterland/api"
	"hinterland/cargo"
)

func TestP9_2ByHand(t *testing.T) {
	one := api.Parcel{Kind: 1, From: 2, Tile: 3, Age: 4, Count: 5, Share: 6}
	with := func(change func(p *api.Parcel)) api.Parcel {
		p := one
		p.Count, p.Share = 7, 8
		change(&p)
		return p
	}
	both := with(func(p *api.Parcel) { p.Count, p.Share = 12, 14 })
	kind := with(func(p *api.Parcel) { p.Kind = 0 })
	from := with(func(p *api.Parcel) { p.From = 3 })
	tile := with(func(p *api.Parcel) { p.Tile = 2 })
	age := with(func(p *api.Parcel) { p.Age = 5 })
	for name, c := range map[string]struct{ a, b, want []api.Parcel }{
		"nothing":      {nil, []api.Parcel{}, nil},
		"with nothing": {[]api.Parcel{one}, nil, []api.Parcel{one}},
		"alike":        {[]api.Parcel{one}, []api.Parcel{with(func(*api.Parcel) {})}, []api.Parcel{both}},
		"another Kind": {[]api.Parcel{one}, []api.Parcel{kind}, []api.Parcel{kind, one}},
		"another From": {[]api.Parcel{one}, []api.Parcel{from}, []api.Parcel{one, from}},
		"another Tile": {[]api.Parcel{one}, []api.Parcel{tile}, []api.Parcel{tile, one}},
		"another Age":  {[]api.Parcel{one}, []api.Parcel{age}, []api.Parcel{one, age}},
		"all": {[]api.Parcel{kind, tile, one}, []api.Parcel{with(func(*api.Parcel) {}), age, from},
			[]api.Parcel{kind, tile, both, age, from}},
	} {
		for _, loads := range [][2][]api.Parcel{{c.a, c.b}, {c.b, c.a}} {
			if l, e := cargo.Join(loads[0], loads[1]); e != api.OK || !slices.Equal(l, c.want) {
				t.Errorf("%s: %v, %d; want %v", name, l, e, c.want)
			}
		}
	}
}

func TestP9_2Limits(t *testing.T) {
	count := func(n int) []api.Parcel { return []api.Parcel{{Tile: 1, Count: n}} }
	share := func(n int) []api.Parcel { return []api.Parcel{{Tile: 1, Count: 1, Share: n}} }
	many := func(n, first int) []api.Parcel { return crowd(n, first, api.Parcel{Count: 1}) }
	for name, c := range map[string]struct {
		a, b []api.Parcel
		want api.Errno
	}{
		"the greatest Count":          {count(api.MaxCount - 1), count(1), api.OK},
		"a Count too great":           {count(api.MaxCount), count(1), api.ErrLarge},
		"the greatest Counts":         {count(api.MaxCount), count(api.MaxCount), api.ErrLarge},
		"the greatest Share":          {share(api.MaxMoney - 3), share(3), api.OK},
		"a Share too great":           {share(api.MaxMoney - 3), share(4), api.ErrLarge},
		"the greatest Shares":         {share(api.MaxMoney), share(api.MaxMoney), api.ErrLarge},
		"the most parcels":            {many(100, 0), many(100, 100), api.OK},
		"the most parcels, one full":  {many(api.MaxParcels, 0), nil, api.OK},
		"the most parcels, alike":     {many(api.MaxParcels, 0), many(api.MaxParcels, 0), api.OK},
		"a parcel too many":           {many(100, 0), many(101, 100), api.ErrLarge},
		"a parcel too many, alike":    {many(101, 0), many(101, 100), api.ErrLarge},
		"the most parcels, one alike": {many(101, 0), many(100, 100), api.OK},
		"twice the most parcels":      {many(api.MaxParcels, 0), many(api.MaxParcels, 500), api.ErrLarge},
	} {
		l, e := cargo.Join(c.a, c.b)
		if e != c.want || (e == api.OK) != (l != nil) {
			t.Errorf("%s: %d parcels, %d; want %d", name, len(l), e, c.want)
		}
		if e == api.OK && !slices.Equal(l, joinOf(c.a, c.b)) {
			t.Errorf("%s: %v", name, l)
		}
	}
}

func TestP9_2ErrorsInOrder(t *testing.T) {
	large, bad := make([]api.Parcel, api.MaxParcels+1), []api.Parcel{{}}
	if l, e := cargo.Join(large, bad); l != nil || e != api.ErrLarge {
		t.Error("the first one's ahead", l, e)
	}
	if l, e := cargo.Join(bad, large); l != nil || e != api.ErrArg {
		t.Error("the second one's behind", l, e)
	}
}

func TestP9_2ByTheWords(t *testing.T) {
	chance := rand.New(rand.NewPCG(9, 2))
	met := 0
	for range 3000 {
		a, b := draw(chance, 30, 3), draw(chance, 30, 3)
		g := give(a, b)
		l, e := cargo.Join(g.loads[0], g.loads[1])
		if want := joinOf(a, b); e != api.OK || !slices.Equal(l, want) {
			t.Fatalf("%v and %v: %v, %d; want %v", a, b, l, e, want)
		}
		if e := cargo.Validate(l); e != api.OK {
			t.Fatalf("%v is no load: %d", l, e)
		}
		if len(l) < len(a)+len(b) {
			met++
		}
		g.check(t, l)
	}
	if met < 1000 {
		t.Error("too few are alike:", met)
	}
}

// shelf is a load whose oldest parcels of the kind 1 do not stand ahead.
func shelf() []api.Parcel {
	return []api.Parcel{
		{Kind: 0, Age: 200, Count: 50, Share: 1},
		{Kind: 1, From: 1, Tile: 7, Age: 3, Count: 10, Share: 101},
		{Kind: 1, From: 1, Tile: 7, Age: 9, Count: 4, Share: 44},
		{Kind: 1, From: 2, Tile: 5, Age: 9, Count: 6, Share: 9},
		{Kind: 1, From: 2, Tile: 6, Age: 0, Count: 1, Share: 1},
		{Kind: 2, Age: 100, Count: 5},
	}
}

func TestP9_3ByHand(t *testing.T) {
	s := shelf()
	part := func(i, count, share int) api.Parcel {
		p := s[i]
		p.Count, p.Share = count, share
		return p
	}
	for name, c := range map[string]struct {
		kind, n     int
		taken, left []api.Parcel
	}{
		"nothing":                  {1, 0, nil, s},
		"a part of the first":      {1, 3, []api.Parcel{part(2, 3, 33)}, []api.Parcel{s[0], s[1], part(2, 1, 11), s[3], s[4], s[5]}},
		"the first":                {1, 4, []api.Parcel{s[2]}, []api.Parcel{s[0], s[1], s[3], s[4], s[5]}},
		"of one Age":               {1, 9, []api.Parcel{s[2], part(3, 5, 7)}, []api.Parcel{s[0], s[1], part(3, 1, 2), s[4], s[5]}},
		"younger ones":             {1, 11, []api.Parcel{part(1, 1, 10), s[2], s[3]}, []api.Parcel{s[0], part(1, 9, 91), s[4], s[5]}},
		"all but one":              {1, 20, []api.Parcel{s[1], s[2], s[3]}, []api.Parcel{s[0], s[4], s[5]}},
		"all":                      {1, 21, s[1:5], []api.Parcel{s[0], s[5]}},
		"more than all":            {1, 22, s[1:5], []api.Parcel{s[0], s[5]}},
		"the most":                 {0, maxInt, s[:1], s[1:]},
		"no Share":                 {2, 2, []api.Parcel{part(5, 2, 0)}, slices.Concat(s[:5], []api.Parcel{part(5, 3, 0)})},
		"a Share of less than one": {0, 49, []api.Parcel{part(0, 49, 0)}, slices.Concat([]api.Parcel{part(0, 1, 1)}, s[1:])},
		"a kind that it has not":   {3, 5, nil, s},
		"a kind below all":         {minInt, 5, nil, s},
		"a kind above all":         {maxInt, 5, nil, s},
	} {
		taken, left, e := cargo.Take(s, c.kind, c.n)
		if e != api.OK || !slices.Equal(taken, c.taken) || !slices.Equal(left, c.left) {
			t.Errorf("%s: %v and %v, %d; want %v and %v", name, taken, left, e, c.taken, c.left)
		}
	}
	if taken, left, e := cargo.Take(nil, 0, 5); len(taken)+len(left) != 0 || e != api.OK {
		t.Error("of nothing:", taken, left, e)
	}
}

func TestP9_3TrimByHand(t *testing.T) {
	s := shelf()
	young := s[1]
	young.Count, young.Share = 2, 20
	for name, c := range map[string]struct {
		kind, n, lost int
		want          []api.Parcel
	}{
		"nothing left":            {1, 0, 21, []api.Parcel{s[0], s[5]}},
		"the oldest":              {1, 10, 11, []api.Parcel{s[0], s[2], s[3], s[5]}},
		"a part of a younger one": {1, 12, 9, []api.Parcel{s[0], young, s[2], s[3], s[5]}},
		"all":                     {1, 21, 0, s},
		"more than all":           {1, maxInt, 0, s},
		"the first kind":          {0, 0, 50, s[1:]},
		"the last kind":           {2, 0, 5, s[:5]},
		"a kind that it has not":  {3, 0, 0, s},
		"a kind below all":        {minInt, 0, 0, s},
		"a kind above all":        {maxInt, 0, 0, s},
	} {
		if l, lost, e := cargo.Trim(s, c.kind, c.n); e != api.OK || lost != c.lost || !slices.Equal(l, c.want) {
			t.Errorf("%s: %v, %d, %d; want %v, %d", name, l, lost, e, c.want, c.lost)
		}
	}
	if l, lost, e := cargo.Trim(nil, 0, 0); len(l) != 0 || lost != 0 || e != api.OK {
		t.Error("of nothing:", l, lost, e)
	}
}

func TestP9_3Errors(t *testing.T) {
	for _, n := range []int{-1, minInt} {
		for _, load := range [][]api.Parcel{nil, shelf()} {
			if taken, left, e := cargo.Take(load, 1, n); taken != nil || left != nil || e != api.ErrArg {
				t.Error("Take", n, taken, left, e)
			}
			if l, lost, e := cargo.Trim(load, 1, n); l != nil || lost != 0 || e != api.ErrArg {
				t.Error("Trim", n, l, lost, e)
			}
		}
	}
}

func TestP9_3Greatest(t *testing.T) {
	most := crowd(api.MaxParcels, 0, api.Parcel{Age: api.MaxAge, Count: api.MaxCount, Share: api.MaxMoney})
	taken, left, e := cargo.Take(most, 0, 100*api.MaxCount-1)
	if e != api.OK || len(taken) != 100 || len(left) != 101 {
		t.Fatal(len(taken), len(left), e)
	}
	if p, q := taken[99], left[0]; p.Count != 999999 || p.Share != 999999000000 || q.Count != 1 || q.Share != 1000000 {
		t.Error(p, q)
	}
	if l, lost, e := cargo.Trim(most, 0, 100*api.MaxCount-1); e != api.OK || lost != 100*api.MaxCount+1 || !slices.Equal(l, taken) {
		t.Error("Trim", len(l), lost, e)
	}
}

func TestP9_3ByTheWords(t *testing.T) {
	chance := rand.New(rand.NewPCG(9, 3))
	parts := 0
	for range 4000 {
		load, kind, n := draw(chance, 20, 2), chance.IntN(3), chance.IntN(120)
		gone, kept := takeOf(load, kind, n)
		g := give(load)
		taken, left, e := cargo.Take(g.loads[0], kind, n)
		if e != api.OK || !slices.Equal(taken, gone) || !slices.Equal(left, kept) {
			t.Fatalf("%d of %d of %v: %v and %v, %d; want %v and %v", n, kind, load, taken, left, e, gone, kept)
		}
		if cargo.Validate(taken) != api.OK || cargo.Validate(left) != api.OK {
			t.Fatalf("%v or %v is no load", taken, left)
		}
		if len(taken)+len(left) > len(load) {
			parts++
		}
		g.check(t, taken, left)
		var want []api.Parcel
		units := 0
		for _, p := range kept {
			if p.Kind == kind {
				units += p.Count
			} else {
				want = append(want, p)
			}
		}
		want = joinOf(gone, want)
		l, lost, e := cargo.Trim(g.loads[0], kind, n)
		if e != api.OK || lost != units || !slices.Equal(l, want) {
			t.Fatalf("Trim to %d of %d of %v: %v, %d, %d; want %v, %d", n, kind, load, l, lost, e, want, units)
		}
		g.check(t, l)
	}
	if parts < 1000 {
		t.Error("too few parcels are parted:", parts)
	}
}

func TestP9_4ByHand(t *testing.T) {
	load := []api.Parcel{
		{Kind: 1, Age: 0, Count: 1, Share: 10},
		{Kind: 1, Age: 250, Count: 2, Share: 20},
		{Kind: 1, Age: 253, Count: 4, Share: 40},
		{Kind: 1, Tile: 1, Age: 255, Count: 8, Share: 80},
	}
	older := func(ages ...int) []api.Parcel {
		l := slices.Clone(load)
		for i, age := range ages {
			l[i].Age = age
		}
		return l
	}
	old := api.Parcel{Kind: 1, Age: 255, Count: 6, Share: 60}
	all := api.Parcel{Kind: 1, Age: 255, Count: 7, Share: 70}
	for days, want := range map[int][]api.Parcel{
		0:      load,
		1:      older(1, 251, 254),
		2:      older(2, 252, 255),
		4:      older(4, 254, 255),
		5:      {{Kind: 1, Age: 5, Count: 1, Share: 10}, old, load[3]},
		254:    {{Kind: 1, Age: 254, Count: 1, Share: 10}, old, load[3]},
		255:    {all, load[3]},
		256:    {all, load[3]},
		maxInt: {all, load[3]},
	} {
		if l, e := cargo.Older(load, days); e != api.OK || !slices.Equal(l, want) {
			t.Errorf("%d days: %v, %d; want %v", days, l, e, want)
		}
	}
	if l, e := cargo.Older(nil, 7); len(l) != 0 || e != api.OK {
		t.Error("of nothing:", l, e)
	}
}

func TestP9_4Errors(t *testing.T) {
	counts := []api.Parcel{{Age: 254, Count: api.MaxCount}, {Age: 255, Count: 1}}
	shares := []api.Parcel{{Age: 254, Count: 1, Share: 1}, {Age: 255, Count: 1, Share: api.MaxMoney}}
	for _, c := range []struct {
		load []api.Parcel
		days int
		want api.Errno
	}{
		{nil, -1, api.ErrArg}, {counts, -1, api.ErrArg}, {shares, minInt, api.ErrArg},
		{counts, 0, api.OK}, {shares, 0, api.OK},
		{counts, 1, api.ErrLarge}, {shares, 1, api.ErrLarge}, {counts, maxInt, api.ErrLarge},
	} {
		if l, e := cargo.Older(c.load, c.days); e != c.want || e != api.OK && l != nil {
			t.Errorf("%v, %d days: %v, %d; want %d", c.load, c.days, l, e, c.want)
		}
	}
	counts[0].Count--
	shares[1].Share--
	for _, load := range [][]api.Parcel{counts, shares} {
		if l, e := cargo.Older(load, 1); len(l) != 1 || e != api.OK {
			t.Error("up to the limit:", l, e)
		}
	}
}

func TestP9_4ByTheWords(t *testing.T) {
	chance := rand.New(rand.NewPCG(9, 4))
	met := 0
	for range 2000 {
		load, days := draw(chance, 20, 2), chance.IntN(8)
		if chance.IntN(5) == 0 {
			days = 245 + chance.IntN(20)
		}
		g := give(load)
		l, e := cargo.Older(g.loads[0], days)
		if want := olderOf(load, days); e != api.OK || !slices.Equal(l, want) {
			t.Fatalf("%v, %d days: %v, %d; want %v", load, days, l, e, want)
		}
		if len(l) < len(load) {
			met++
		}
		g.check(t, l)
	}
	if met < 500 {
		t.Error("too few are joined:", met)
	}
}

// S5: joining, taking and ageing neither make nor lose a unit or a share of one.
func TestS5Units(t *testing.T) {
	chance := rand.New(rand.NewPCG(9, 5))
	for range 2000 {
		a, b := draw(chance, 20, 4), draw(chance, 20, 4)
		units, shares := counted(a, b)
		check := func(what string, loads ...[]api.Parcel) {
			t.Helper()
			if u, s := counted(loads...); u != units || s != shares {
				t.Fatalf("%s: %v, %v; want %v, %v", what, u, s, units, shares)
			}
		}
		both, e := cargo.Join(a, b)
		if e != api.OK {
			t.Fatal("Join", e)
		}
		check("Join", both)
		aged, e := cargo.Older(both, chance.IntN(260))
		if e != api.OK {
			t.Fatal("Older", e)
		}
		check("Older", aged)
		kind, n := chance.IntN(4), chance.IntN(60)
		taken, left, e := cargo.Take(aged, kind, n)
		if e != api.OK {
			t.Fatal("Take", e)
		}
		check("Take", taken, left)
		kept, lost, e := cargo.Trim(aged, kind, n)
		if u, _ := counted(kept); e != api.OK || u[kind]+lost != units[kind] || u[kind] != min(n, units[kind]) {
			t.Fatal("Trim", u, lost, e)
		}
	}
}
