package roll

import "hinterland/api"

const (
	firstYear = 1900
	lastYear  = firstYear + api.MaxDay/365 // each later year begins above MaxDay
)

// months are the days of each month in a year of 365 days.
var months = [12]int{31, 28, 31, 30, 31, 30, 31, 31, 30, 31, 30, 31}

// Date returns the date of a day.
func Date(day int) (api.Date, api.Errno) {
	if day < 0 || day > api.MaxDay {
		return api.Date{}, api.ErrArg
	}
	d := api.Date{Year: firstYear, Month: 1}
	for day >= daysOfYear(d.Year) {
		day -= daysOfYear(d.Year)
		d.Year++
	}
	for day >= daysOfMonth(d.Year, d.Month) {
		day -= daysOfMonth(d.Year, d.Month)
		d.Month++
	}
	d.Day = day + 1
	return d, api.OK
}

// Day returns the day of a date.
func Day(d api.Date) (int, api.Errno) {
	if !isDate(d) {
		return 0, api.ErrArg
	}
	day := d.Day - 1
	for y := firstYear; y < d.Year; y++ {
		day += daysOfYear(y)
	}
	for m := 1; m < d.Month; m++ {
		day += daysOfMonth(d.Year, m)
	}
	if day > api.MaxDay {
		return 0, api.ErrArg
	}
	return day, api.OK
}

// Ends returns what ends with a day: 0 nothing but the day, 1 a month, 2 a
// quarter, 3 a year.
func Ends(day int) (int, api.Errno) {
	d, e := Date(day)
	if e != api.OK {
		return 0, e
	}
	switch {
	case d.Day < daysOfMonth(d.Year, d.Month):
		return 0, api.OK
	case d.Month == 12:
		return 3, api.OK
	case d.Month%3 == 0:
		return 2, api.OK
	}
	return 1, api.OK
}

// isDate tells whether there is such a date in the years of the calendar. It
// bounds the year, so that no loop over years runs long.
func isDate(d api.Date) bool {
	if d.Year < firstYear || d.Year > lastYear || d.Month < 1 || d.Month > 12 {
		return false
	}
	return d.Day >= 1 && d.Day <= daysOfMonth(d.Year, d.Month)
}

func isLeap(year int) bool {
	return year%4 == 0 && (year%100 != 0 || year%400 == 0)
}

func daysOfYear(year int) int {
	if isLeap(year) {
		return 366
	}
	return 365
}

func daysOfMonth(year, month int) int {
	if month == 2 && isLeap(year) {
		return 29
	}
	return months[month-1]
}
