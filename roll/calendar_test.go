package roll_test

import (
	"testing"
	"time"

	"hinterland/api"
	"hinterland/roll"
)

// dateOf asks Go's own calendar.
func dateOf(day int) api.Date {
	y, m, d := time.Date(1900, 1, 1+day, 0, 0, 0, 0, time.UTC).Date()
	return api.Date{Year: y, Month: int(m), Day: d}
}

func TestP1_5EveryDay(t *testing.T) {
	for day := range api.MaxDay + 1 {
		want := dateOf(day)
		d, e := roll.Date(day)
		if e != api.OK || d != want {
			t.Fatalf("Date(%d) = %v, %d, want %v", day, d, e, want)
		}
		back, e := roll.Day(want)
		if e != api.OK || back != day {
			t.Fatalf("Day(%v) = %d, %d, want %d", want, back, e, day)
		}
	}
}

func TestP1_5Examples(t *testing.T) {
	for day, want := range map[int]api.Date{
		0:     {Year: 1900, Month: 1, Day: 1},
		58:    {Year: 1900, Month: 2, Day: 28},
		59:    {Year: 1900, Month: 3, Day: 1},
		364:   {Year: 1900, Month: 12, Day: 31},
		365:   {Year: 1901, Month: 1, Day: 1},
		1519:  {Year: 1904, Month: 2, Day: 29},
		36583: {Year: 2000, Month: 2, Day: 29},
	} {
		if d, e := roll.Date(day); e != api.OK || d != want {
			t.Errorf("Date(%d) = %v, %d, want %v", day, d, e, want)
		}
	}
}

func TestP1_5Ends(t *testing.T) {
	for day := range api.MaxDay + 1 {
		want := 0
		if d, next := dateOf(day), dateOf(day+1); d.Month != next.Month {
			want = [12]int{1, 1, 2, 1, 1, 2, 1, 1, 2, 1, 1, 3}[d.Month-1]
		}
		if k, e := roll.Ends(day); e != api.OK || k != want {
			t.Fatalf("Ends(%d) = %d, %d, want %d", day, k, e, want)
		}
	}
	if k, e := roll.Ends(364); e != api.OK || k != 3 {
		t.Errorf("Ends(364) = %d, %d", k, e)
	}
}

func TestP1_5NoDay(t *testing.T) {
	for _, day := range []int{-1, minInt, api.MaxDay + 1, maxInt} {
		if d, e := roll.Date(day); e != api.ErrArg || d != (api.Date{}) {
			t.Errorf("Date(%d) = %v, %d", day, d, e)
		}
		if k, e := roll.Ends(day); e != api.ErrArg || k != 0 {
			t.Errorf("Ends(%d) = %d, %d", day, k, e)
		}
	}
}

func TestP1_5NoDate(t *testing.T) {
	last := dateOf(api.MaxDay)
	above := dateOf(api.MaxDay + 1)
	for _, d := range []api.Date{
		{},
		{Year: 1899, Month: 12, Day: 31},
		{Year: 1900, Month: 2, Day: 29},
		{Year: 2100, Month: 2, Day: 29},
		{Year: 2000, Month: 2, Day: 30},
		{Year: 1900, Month: 4, Day: 31},
		{Year: 1900, Month: 12, Day: 32},
		{Year: 1900, Month: 0, Day: 1},
		{Year: 1900, Month: 13, Day: 1},
		{Year: 1900, Month: 1, Day: 0},
		{Year: 1900, Month: -1, Day: -1},
		{Year: minInt, Month: 1, Day: 1},
		{Year: maxInt, Month: 1, Day: 1},
		{Year: 1901, Month: minInt, Day: maxInt},
		{Year: 1901, Month: maxInt, Day: minInt},
		{Year: 1901, Month: 1, Day: minInt},
		above,
		{Year: last.Year, Month: 12, Day: 31},
		{Year: last.Year + 1, Month: 1, Day: 1},
	} {
		if day, e := roll.Day(d); e != api.ErrArg || day != 0 {
			t.Errorf("Day(%v) = %d, %d", d, day, e)
		}
	}
	if day, e := roll.Day(last); e != api.OK || day != api.MaxDay {
		t.Errorf("Day(%v) = %d, %d, want MaxDay", last, day, e)
	}
}

// Between the first and the last day just those dates exist that Go knows.
func TestP1_5EveryDate(t *testing.T) {
	for year := 1898; year <= 2176; year++ {
		for month := -1; month <= 14; month++ {
			for number := -1; number <= 33; number++ {
				d := api.Date{Year: year, Month: month, Day: number}
				at := time.Date(year, time.Month(month), number, 0, 0, 0, 0, time.UTC)
				begin := time.Date(1900, 1, 1, 0, 0, 0, 0, time.UTC)
				want := int(at.Sub(begin) / (24 * time.Hour))
				exists := dateOf(want) == d && want >= 0 && want <= api.MaxDay
				day, e := roll.Day(d)
				if exists && (e != api.OK || day != want) || !exists && (e != api.ErrArg || day != 0) {
					t.Fatalf("Day(%v) = %d, %d", d, day, e)
				}
			}
		}
	}
}
