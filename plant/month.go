package plant

import (
	"hinterland/api"
	"hinterland/roll"
)

// What Month tells of a plant.
const (
	stayed = iota
	rose
	fell
	closed
)

const (
	percent = 100
	enough  = 60 // of a hundred units made, for a source to be served
	tooLong = 60 // months that a plant may be idle before it can close
	closing = 4  // one of so many plants closes that were idle too long
)

// Month returns a plant behind a month, what became of it, and the stream
// behind the draws.
func Month(kinds []api.PlantKind, p api.Plant, s api.Stream) (api.Plant, int, api.Stream, api.Errno) {
	if e := Validate(kinds, p); e != api.OK {
		return api.Plant{}, 0, api.Stream{}, e
	}
	p = copied(p)
	if !p.Open {
		return p, stayed, s, api.OK
	}
	k, level := kinds[p.Kind], p.Level
	p.Idle = idleMonths(k, p)
	if isSource(k) && sum(p.Made) > 0 {
		var chance int
		chance, s = roll.Below(s, percent)
		p.Level = nextLevel(p, chance)
	}
	if p.Idle >= tooLong {
		var chance int
		chance, s = roll.Below(s, closing)
		p.Open = chance != 0
	}
	clear(p.Made)
	clear(p.Moved)
	p.Got = 0
	return p, became(p, level), s, api.OK
}

// idleMonths returns for how many months a plant has been of no use.
func idleMonths(k api.PlantKind, p api.Plant) int {
	used := p.Got
	if isSource(k) {
		used = sum(p.Moved)
	}
	if used > 0 {
		return 0
	}
	return grown(p.Idle, 1)
}

// nextLevel returns the level of a source in the next month, by a chance of a
// hundred.
func nextLevel(p api.Plant, chance int) int {
	growsBelow, shrinksFrom := 20, 60
	if percent*sum(p.Moved) >= enough*sum(p.Made) {
		growsBelow, shrinksFrom = 40, 90
	}
	step := max(p.Level/8, 1)
	switch {
	case chance < growsBelow:
		return min(p.Level+step, api.MaxLevel)
	case chance >= shrinksFrom:
		return max(p.Level-step, 1)
	}
	return p.Level
}

// became tells what became of an open plant that had a level.
func became(p api.Plant, level int) int {
	switch {
	case !p.Open:
		return closed
	case p.Level > level:
		return rose
	case p.Level < level:
		return fell
	}
	return stayed
}

func sum(counts []int) int {
	all := 0
	for _, n := range counts {
		all += n
	}
	return all
}
