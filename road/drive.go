package road

import (
	"slices"

	"hinterland/api"
)

// Next returns the sides through which a truck may leave a tile that it
// entered through the side from, or where it began, with from -1.
func Next(t api.Streets, tile, from int) ([]int, api.Errno) {
	if e := validateEntry(t, tile, from); e != api.OK {
		return nil, e
	}
	return exits(t, tile, from), api.OK
}

// Joined tells whether a tile and the one beyond a side have arms that meet.
func Joined(t api.Streets, tile, side int) (bool, api.Errno) {
	if e := validateTile(t, tile); e != api.OK {
		return false, e
	}
	if side < 0 || side >= sides {
		return false, api.ErrArg
	}
	_, ok := join(t, tile, side)
	return ok, api.OK
}

// Parts returns for each tile the least tile that hangs together with it, or
// -1 if it has no arms.
func Parts(t api.Streets) ([]int, api.Errno) {
	if e := Validate(t); e != api.OK {
		return nil, e
	}
	parts := slices.Repeat([]int{-1}, len(t.Arms))
	var path []int
	try := func(side int) bool {
		tile := path[len(path)-1]
		next, ok := join(t, tile, side)
		if !ok || parts[next] >= 0 {
			return false
		}
		parts[next] = parts[tile]
		path = append(path, next)
		return true
	}
	for first, arms := range t.Arms {
		if arms == 0 || parts[first] >= 0 {
			continue
		}
		parts[first] = first
		path = append(path, first)
	walk:
		for len(path) > 0 {
			for side := range sides {
				if try(side) {
					continue walk
				}
			}
			path = path[:len(path)-1]
		}
	}
	return parts, api.OK
}

// Go returns the tiles of a drive that takes one turn behind the other.
func Go(t api.Streets, tile, from int, turns []int) ([]int, api.Errno) {
	if e := validateEntry(t, tile, from); e != api.OK {
		return nil, e
	}
	if len(turns) > api.MaxList {
		return nil, api.ErrLarge
	}
	drive := []int{tile}
	for _, turn := range turns {
		list := exits(t, tile, from)
		if len(list) == 0 {
			break
		}
		side := list[max(turn, 0)%len(list)]
		tile, from = beyond(t, tile, side), opposite(side)
		drive = append(drive, tile)
	}
	return drive, api.OK
}

// validateEntry returns validateTile's errors, then that of a side from which
// no truck comes.
func validateEntry(t api.Streets, tile, from int) api.Errno {
	if e := validateTile(t, tile); e != api.OK {
		return e
	}
	if from < -1 || from >= sides {
		return api.ErrArg
	}
	return api.OK
}

// exits returns the Next of a tile, ascending.
func exits(t api.Streets, tile, from int) []int {
	open := func(side int) bool {
		next, ok := join(t, tile, side)
		return ok && lets(t.Ways[tile], side) && lets(t.Ways[next], side)
	}
	var list []int
	for side := range sides {
		if side != from && open(side) {
			list = append(list, side)
		}
	}
	if len(list) == 0 && from >= 0 && open(from) {
		list = append(list, from)
	}
	return list
}

// lets tells whether Ways let a truck go in the direction of a side.
func lets(way, side int) bool {
	switch way {
	case toEastOrSouth:
		return side == east || side == south
	case toWestOrNorth:
		return side == west || side == north
	}
	return true
}

// join returns the tile beyond a side and whether both have arms that meet.
func join(t api.Streets, tile, side int) (int, bool) {
	next := beyond(t, tile, side)
	if next < 0 || !hasArm(t, tile, side) || !hasArm(t, next, opposite(side)) {
		return -1, false
	}
	return next, true
}

func hasArm(t api.Streets, tile, side int) bool {
	return t.Arms[tile]&(1<<side) != 0
}

func opposite(side int) int {
	return (side + 2) % sides
}

// beyond returns the tile on a side of a tile, or -1 where the map ends.
func beyond(t api.Streets, tile, side int) int {
	x, y := tile%t.W, tile/t.W
	switch side {
	case east:
		x++
	case south:
		y++
	case west:
		x--
	case north:
		y--
	}
	if x < 0 || x >= t.W || y < 0 || y >= t.H {
		return -1
	}
	return y*t.W + x
}
