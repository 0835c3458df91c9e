package cargo_test

import (
	"slices"
	"strings"
	"testing"

	"hinterland/api"
	"hinterland/cargo"
)

// calls are all functions with a load, told which error each one returned, and
// whether it returned anything else.
func calls(load []api.Parcel) map[string]func() (api.Errno, bool) {
	one := []api.Parcel{{Count: 1}}
	kinds := []api.Cargo{{Name: "coal", Rate: 9}}
	return map[string]func() (api.Errno, bool){
		"Validate":    func() (api.Errno, bool) { return cargo.Validate(load), false },
		"Sum":         func() (api.Errno, bool) { n, e := cargo.Sum(load, 0); return e, n != 0 },
		"Join, ahead": func() (api.Errno, bool) { l, e := cargo.Join(load, one); return e, l != nil },
		"Join, behind": func() (api.Errno, bool) {
			l, e := cargo.Join(one, load)
			return e, l != nil
		},
		"Take": func() (api.Errno, bool) {
			taken, left, e := cargo.Take(load, 0, -1)
			return e, taken != nil || left != nil
		},
		"Older": func() (api.Errno, bool) { l, e := cargo.Older(load, -1); return e, l != nil },
		"Deliver": func() (api.Errno, bool) {
			paid, shares, e := cargo.Deliver(kinds, load, 0, -1)
			return e, paid != 0 || shares != 0
		},
		"Transfer": func() (api.Errno, bool) {
			l, grown, e := cargo.Transfer(kinds, load, 0, -1)
			return e, l != nil || grown != 0
		},
		"Trim": func() (api.Errno, bool) { l, lost, e := cargo.Trim(load, 0, -1); return e, l != nil || lost != 0 },
	}
}

// refused asks all functions with a load for an error.
func refused(t *testing.T, name string, want api.Errno, load []api.Parcel) {
	t.Helper()
	for f, call := range calls(load) {
		if e, more := call(); e != want || more {
			t.Errorf("%s, %s: %d, a result: %t; want %d", f, name, e, more, want)
		}
	}
}

func TestP9_1Validate(t *testing.T) {
	full := api.Parcel{Kind: api.MaxNumber, From: api.MaxNumber, Tile: api.MaxNumber, Age: api.MaxAge, Count: api.MaxCount, Share: api.MaxMoney}
	for name, load := range map[string][]api.Parcel{
		"nil":                 nil,
		"empty":               {},
		"the least parcel":    {{Count: 1}},
		"the greatest parcel": {full},
		"both":                {{Count: 1}, full},
		"by Age":              {{Age: 0, Count: 9, Share: 9}, {Age: 1, Count: 1}},
		"by Tile":             {{Tile: 0, Age: 9, Count: 9, Share: 9}, {Tile: 1, Count: 1}},
		"by From":             {{From: 0, Tile: 9, Age: 9, Count: 9, Share: 9}, {From: 1, Count: 1}},
		"by Kind":             {{Kind: 0, From: 9, Tile: 9, Age: 9, Count: 9, Share: 9}, {Kind: 1, Count: 1}},
		"the most parcels":    crowd(api.MaxParcels, 0, full),
	} {
		if e := cargo.Validate(load); e != api.OK {
			t.Errorf("%s: %d", name, e)
		}
	}
}

func TestP9_1ValidateErrors(t *testing.T) {
	one := api.Parcel{Kind: 1, From: 1, Tile: 1, Age: 1, Count: 1, Share: 1}
	with := func(change func(p *api.Parcel)) []api.Parcel {
		p := one
		change(&p)
		return []api.Parcel{p}
	}
	for name, load := range map[string][]api.Parcel{
		"no units":              with(func(p *api.Parcel) { p.Count = 0 }),
		"fewer units than none": with(func(p *api.Parcel) { p.Count = minInt }),
		"a unit too many":       with(func(p *api.Parcel) { p.Count = api.MaxCount + 1 }),
		"the most units of all": with(func(p *api.Parcel) { p.Count = maxInt }),
		"an Age too low":        with(func(p *api.Parcel) { p.Age = -1 }),
		"an Age too high":       with(func(p *api.Parcel) { p.Age = api.MaxAge + 1 }),
		"a Share too low":       with(func(p *api.Parcel) { p.Share = -1 }),
		"a Share too high":      with(func(p *api.Parcel) { p.Share = api.MaxMoney + 1 }),
		"a Kind too low":        with(func(p *api.Parcel) { p.Kind = -1 }),
		"a Kind too high":       with(func(p *api.Parcel) { p.Kind = api.MaxNumber + 1 }),
		"a From too low":        with(func(p *api.Parcel) { p.From = -1 }),
		"a From too high":       with(func(p *api.Parcel) { p.From = api.MaxNumber + 1 }),
		"a Tile too low":        with(func(p *api.Parcel) { p.Tile = -1 }),
		"a Tile too high":       with(func(p *api.Parcel) { p.Tile = api.MaxNumber + 1 }),
		"the lowest of all":     {{Kind: minInt, From: minInt, Tile: minInt, Age: minInt, Count: minInt, Share: minInt}},
		"the highest of all":    {{Kind: maxInt, From: maxInt, Tile: maxInt, Age: maxInt, Count: maxInt, Share: maxInt}},
		"behind a good one":     {{Count: 1}, {Kind: 1}},
		"alike":                 {{Count: 1}, {Count: 2, Share: 1}},
		"falling by Age":        {{Age: 1, Count: 1}, {Age: 0, Count: 1}},
		"falling by Tile":       {{Tile: 1, Count: 1}, {Tile: 0, Age: 1, Count: 1}},
		"falling by From":       {{From: 1, Count: 1}, {From: 0, Tile: 1, Age: 1, Count: 1}},
		"falling by Kind":       {{Kind: 1, Count: 1}, {Kind: 0, From: 1, Tile: 1, Age: 1, Count: 1}},
		"falling at the end":    {{Count: 1}, {Kind: 1, Count: 1}, {Kind: 0, Count: 1}},
	} {
		refused(t, name, api.ErrArg, load)
	}
	refused(t, "a parcel too many", api.ErrLarge, crowd(api.MaxParcels+1, 0, one))
	refused(t, "many bad parcels", api.ErrLarge, make([]api.Parcel, 5000))
}

func TestP9_1ValidateCargoes(t *testing.T) {
	var most []api.Cargo
	for i := range api.MaxKinds {
		most = append(most, api.Cargo{Name: string(rune('a' + i)), Rate: i})
	}
	for name, l := range map[string][]api.Cargo{
		"nil":             nil,
		"empty":           {},
		"the least":       {{Name: "a"}},
		"the greatest":    {{Name: "zzzzzzzzzzzz", Rate: api.MaxRate, Fast: api.MaxAge, Slow: api.MaxAge}},
		"alike but names": {{Name: "b", Rate: 5}, {Name: "a", Rate: 5}, {Name: "aa", Rate: 5}},
		"the most":        most,
	} {
		if e := cargo.ValidateCargoes(l); e != api.OK {
			t.Errorf("%s: %d", name, e)
		}
	}
}

// kindsRefused asks all functions with cargoes for an error.
func kindsRefused(t *testing.T, name string, want api.Errno, l []api.Cargo) {
	t.Helper()
	bad := []api.Parcel{{Kind: 5}}
	if e := cargo.ValidateCargoes(l); e != want {
		t.Errorf("ValidateCargoes, %s: %d; want %d", name, e, want)
	}
	if paid, shares, e := cargo.Deliver(l, bad, 0, -1); paid != 0 || shares != 0 || e != want {
		t.Errorf("Deliver, %s: %d, %d, %d; want %d", name, paid, shares, e, want)
	}
	if load, grown, e := cargo.Transfer(l, bad, 0, -1); load != nil || grown != 0 || e != want {
		t.Errorf("Transfer, %s: %v, %d, %d; want %d", name, load, grown, e, want)
	}
}

// badCargoes have a field each that no cargo may have.
func badCargoes() map[string]api.Cargo {
	return map[string]api.Cargo{
		"no name":             {},
		"a letter too many":   {Name: strings.Repeat("a", api.MaxName+1)},
		"a great letter":      {Name: "coaL"},
		"a digit":             {Name: "coal2"},
		"a space in front":    {Name: " coal"},
		"the byte below a":    {Name: "co`al"},
		"the byte above z":    {Name: "co{al"},
		"a letter with a dot": {Name: "k\u00f6hle"},
		"a broken letter":     {Name: "coal\xff"},
		"the byte 0":          {Name: "\x00"},
		"a Rate too low":      {Name: "coal", Rate: -1},
		"a Rate too high":     {Name: "coal", Rate: api.MaxRate + 1},
		"a Fast too low":      {Name: "coal", Fast: -1},
		"a Fast too high":     {Name: "coal", Fast: api.MaxAge + 1},
		"a Slow too low":      {Name: "coal", Slow: -1},
		"a Slow too high":     {Name: "coal", Slow: api.MaxAge + 1},
		"the lowest of all":   {Name: "coal", Rate: minInt, Fast: minInt, Slow: minInt},
		"the highest of all":  {Name: "coal", Rate: maxInt, Fast: maxInt, Slow: maxInt},
	}
}

func TestP9_1ValidateCargoesErrors(t *testing.T) {
	for name, c := range badCargoes() {
		kindsRefused(t, name, api.ErrArg, []api.Cargo{c})
		kindsRefused(t, name+" behind names that are twice", api.ErrArg, []api.Cargo{{Name: "ore"}, {Name: "ore"}, c})
	}
	kindsRefused(t, "twice", api.ErrTwice, []api.Cargo{{Name: "ore"}, {Name: "ore"}})
	kindsRefused(t, "twice, apart", api.ErrTwice, []api.Cargo{{Name: "ore", Rate: 1}, {Name: "coal"}, {Name: "ore", Rate: 2}})
	kindsRefused(t, "too many", api.ErrLarge, make([]api.Cargo, api.MaxKinds+1))
	kindsRefused(t, "too many good ones", api.ErrLarge, slices.Repeat([]api.Cargo{{Name: "ore"}}, api.MaxKinds+1))
}

func TestP9_1Sum(t *testing.T) {
	load := []api.Parcel{{Kind: 0, Count: 5, Share: 70}, {Kind: 2, From: 1, Count: 7}, {Kind: 2, From: 2, Count: 11}, {Kind: 2, From: 2, Age: 3, Count: 13}, {Kind: 4, Count: 17}}
	for kind, want := range map[int]int{0: 5, 1: 0, 2: 31, 3: 0, 4: 17, 5: 0, -1: 0, minInt: 0, maxInt: 0} {
		if n, e := cargo.Sum(load, kind); n != want || e != api.OK {
			t.Errorf("kind %d: %d, %d; want %d", kind, n, e, want)
		}
	}
	if n, e := cargo.Sum(nil, 0); n != 0 || e != api.OK {
		t.Error("of nothing:", n, e)
	}
	most := crowd(api.MaxParcels, 0, api.Parcel{Kind: 3, Count: api.MaxCount})
	if n, e := cargo.Sum(most, 3); n != 200000000 || e != api.OK {
		t.Error("of the most:", n, e)
	}
	g := give(load)
	cargo.Sum(g.loads[0], 2)
	g.check(t)
}
