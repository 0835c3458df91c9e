package span

import (
	"cmp"
	"slices"

	"hinterland/api"
	"hinterland/land"
)

// The sides of a tile.
const (
	east = iota
	south
	west
	north
	sides
)

const resale = 4 // the part of its cost that a span brings is one of so many

// Add puts a span into a list and returns what it costs.
func Add(l api.Land, spans []api.Span, s api.Span) ([]api.Span, int, api.Errno) {
	if e := validateList(l, spans); e != api.OK {
		return nil, 0, e
	}
	if e := validateOn(l, s); e != api.OK {
		return nil, 0, e
	}
	if taken(l, spans, s) {
		return nil, 0, api.ErrTaken
	}
	if len(spans) >= api.MaxSpans {
		return nil, 0, api.ErrLimit
	}
	place, _ := slices.BinarySearchFunc(spans, s, compare)
	return slices.Insert(slices.Clone(spans), place, s), cost(l, s), api.OK
}

// Drop takes the span away that has a tile as a head and returns what it
// brings.
func Drop(l api.Land, spans []api.Span, tile int) ([]api.Span, int, api.Errno) {
	if e := validateList(l, spans); e != api.OK {
		return nil, 0, e
	}
	place := slices.IndexFunc(spans, func(s api.Span) bool { return isHead(s, tile) })
	if place < 0 {
		return nil, 0, api.ErrNone
	}
	gain := cost(l, spans[place]) / resale
	return slices.Delete(slices.Clone(spans), place, place+1), gain, api.OK
}

// Over returns the spans that cross a tile.
func Over(l api.Land, spans []api.Span, tile int) ([]api.Span, api.Errno) {
	if e := validateList(l, spans); e != api.OK {
		return nil, e
	}
	if !isTile(l, tile) {
		return nil, api.ErrNone
	}
	var over []api.Span
	for _, s := range spans {
		if crosses(l, s, tile) {
			over = append(over, s)
		}
	}
	return over, api.OK
}

// Cross returns the head at which one comes out who enters the head tile in
// the direction side, and how many tiles lie between.
func Cross(l api.Land, spans []api.Span, tile, side int) (int, int, api.Errno) {
	if e := validateList(l, spans); e != api.OK {
		return 0, 0, e
	}
	if side < 0 || side >= sides {
		return 0, 0, api.ErrArg
	}
	for _, s := range spans {
		if other, ok := exit(l, s, tile, side); ok {
			return other, length(l, s), api.OK
		}
	}
	return 0, 0, api.ErrNone
}

// Held returns the tiles whose heights may not change.
func Held(l api.Land, spans []api.Span) ([]int, api.Errno) {
	if e := validateList(l, spans); e != api.OK {
		return nil, e
	}
	var held []int
	for _, s := range spans {
		held = append(held, s.A, s.B)
		if s.Kind == bridge {
			held = slices.AppendSeq(held, between(l, s))
		}
	}
	slices.Sort(held)
	return slices.Compact(held), api.OK
}

// validateList returns the errors of the land, then that of a list that is
// none.
func validateList(l api.Land, spans []api.Span) api.Errno {
	if e := land.Validate(l); e != api.OK {
		return e
	}
	wrong := func(s api.Span) bool { return validateOn(l, s) != api.OK }
	if !ascends(spans) || slices.ContainsFunc(spans, wrong) {
		return api.ErrArg
	}
	return api.OK
}

// ascends tells whether a list is strictly ascending.
func ascends(spans []api.Span) bool {
	for i := 1; i < len(spans); i++ {
		if compare(spans[i-1], spans[i]) >= 0 {
			return false
		}
	}
	return true
}

func compare(a, b api.Span) int {
	return cmp.Or(
		cmp.Compare(a.Kind, b.Kind),
		cmp.Compare(a.A, b.A),
		cmp.Compare(a.B, b.B),
		cmp.Compare(a.Use, b.Use),
	)
}

// taken tells whether a span of the list is in the way of another one.
func taken(l api.Land, spans []api.Span, s api.Span) bool {
	return slices.ContainsFunc(spans, func(other api.Span) bool {
		return isHead(other, s.A) || isHead(other, s.B) || level(l, s, other) && meet(l, s, other)
	})
}

// level tells whether two spans get in each other's way where they cross. All
// bridges do: none is built above another one.
func level(l api.Land, a, b api.Span) bool {
	return a.Kind == b.Kind && (a.Kind == bridge || look(l, a.A).base == look(l, b.A).base)
}

// meet tells whether one of two spans that share no head crosses a head of the
// other one, or both cross the same tile.
func meet(l api.Land, a, b api.Span) bool {
	if crosses(l, b, a.A) || crosses(l, b, a.B) {
		return true
	}
	for tile := range between(l, a) {
		if isHead(b, tile) || crosses(l, b, tile) {
			return true
		}
	}
	return false
}

func isHead(s api.Span, tile int) bool {
	return tile == s.A || tile == s.B
}

func crosses(l api.Land, s api.Span, tile int) bool {
	for each := range between(l, s) {
		if each == tile {
			return true
		}
	}
	return false
}

// exit returns the other head of a span, and whether the direction side leads
// from the tile to it.
func exit(l api.Land, s api.Span, tile, side int) (int, bool) {
	there, back := south, north
	if inRow(l, s) {
		there, back = east, west
	}
	switch {
	case tile == s.A && side == there:
		return s.B, true
	case tile == s.B && side == back:
		return s.A, true
	}
	return 0, false
}
