package land

import (
	"strings"

	"hinterland/api"
)

const lowestLetter = 'a' // of the height 0

// Text returns a land as lines of letters, one for each row of corners.
func Text(l api.Land) (string, api.Errno) {
	if e := Validate(l); e != api.OK {
		return "", e
	}
	text := strings.Builder{}
	for i, z := range l.Corners {
		text.WriteByte(lowestLetter + byte(z))
		if i%(l.W+1) == l.W {
			text.WriteByte('\n')
		}
	}
	return text.String(), api.OK
}

// Parse reads what Text wrote; with ErrSyntax it tells the line.
func Parse(s string) (api.Land, int, api.Errno) {
	if s == "" {
		return api.Land{}, 0, api.ErrSyntax
	}
	rows := strings.TrimSuffix(s, "\n")
	wide, lines := 0, 0
	for row := range strings.SplitSeq(rows, "\n") {
		lines++
		if lines == 1 {
			wide = len(row)
		}
		if len(row) != wide || !isRow(row) {
			return api.Land{}, lines, api.ErrSyntax
		}
	}
	l := api.Land{W: wide - 1, H: lines - 1}
	if !sized(l.W, l.H) { // ahead of its corners, of which a long text has many
		return api.Land{}, 0, api.ErrArg
	}
	for row := range strings.SplitSeq(rows, "\n") {
		for i := range len(row) {
			l.Corners = append(l.Corners, int(row[i]-lowestLetter))
		}
	}
	if e := Validate(l); e != api.OK {
		return api.Land{}, 0, e
	}
	return l, 0, api.OK
}

// isRow tells whether a line has letters of heights, and nothing else.
func isRow(row string) bool {
	for i := range len(row) {
		if row[i] < lowestLetter || row[i] > lowestLetter+api.MaxHeight {
			return false
		}
	}
	return row != ""
}
