package rail

import (
	"strings"

	"hinterland/api"
)

const (
	emptySign = '0' // of the set 0
	lastSign  = emptySign + sets - 1
	wiredSign = 'w'
	bareSign  = '.'
)

// Text returns rails as lines of signs: the sets of each row of tiles, and
// behind an empty line the wires of each row.
func Text(r api.Rails) (string, api.Errno) {
	if e := Validate(r); e != api.OK {
		return "", e
	}
	text := strings.Builder{}
	write := func(tile int, sign byte) {
		text.WriteByte(sign)
		if tile%r.W == r.W-1 {
			text.WriteByte('\n')
		}
	}
	for tile, set := range r.Sets {
		write(tile, emptySign+byte(set))
	}
	text.WriteByte('\n')
	for tile, wired := range r.Wired {
		sign := byte(bareSign)
		if wired {
			sign = wiredSign
		}
		write(tile, sign)
	}
	return text.String(), api.OK
}

// Parse reads what Text wrote; with ErrSyntax it tells the line.
func Parse(s string) (api.Rails, int, api.Errno) {
	w, h, line := measure(s)
	if line > 0 {
		return api.Rails{}, line, api.ErrSyntax
	}
	if !sized(w, h) { // ahead of its tiles, of which a long text has many
		return api.Rails{}, 0, api.ErrArg
	}
	r := api.Rails{W: w, H: h, Sets: make([]int, w*h), Wired: make([]bool, w*h)}
	half := (w+1)*h + 1
	for tile := range r.Sets {
		place := tile/w*(w+1) + tile%w
		r.Sets[tile] = int(s[place] - emptySign)
		r.Wired[tile] = s[half+place] == wiredSign
	}
	if e := Validate(r); e != api.OK {
		return api.Rails{}, 0, e
	}
	return r, 0, api.OK
}

// measure returns how many tiles a text has to the east and to the south, and
// 0; or the number of its first line at fault.
func measure(s string) (int, int, int) {
	w, h, line := 0, 0, 0
	for row := range strings.SplitSeq(strings.TrimSuffix(s, "\n"), "\n") {
		line++
		if line == 1 {
			w = len(row)
		} else if h == 0 && row == "" {
			h = line - 1
			continue
		}
		if len(row) != w || !isRow(row, h > 0) || h > 0 && line > 2*h+1 {
			return 0, 0, line
		}
	}
	if h == 0 || line < 2*h+1 {
		return 0, 0, line + 1
	}
	return w, h, 0
}

// isRow tells whether a line has signs of sets, or behind the empty line of
// wires, and nothing else.
func isRow(row string, wires bool) bool {
	for i := range len(row) {
		sign := row[i]
		if wires && sign != wiredSign && sign != bareSign {
			return false
		}
		if !wires && (sign < emptySign || sign > lastSign) {
			return false
		}
	}
	return row != ""
}
