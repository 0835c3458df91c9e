// Package roll has streams of random numbers, and the calendar.
//
// A stream is plain data: what draws from it returns the stream behind the
// draw, so that equal streams give equal numbers on every machine.
package roll

import (
	"math"

	"hinterland/api"
)

const (
	prime   = 1099511628211
	stride  = 11400714819323198485
	mixing1 = 13787848793156543929
	mixing2 = 10723151780598845931
)

// New returns the stream of a seed and a name.
func New(seed uint64, name string) api.Stream {
	a := seed
	for i := range len(name) {
		a = (a ^ uint64(name[i])) * prime
	}
	return api.Stream{A: a}
}

// Next draws a number of 64 bits.
func Next(s api.Stream) (uint64, api.Stream) {
	s.A += stride
	z := s.A
	z = (z ^ z>>30) * mixing1
	z = (z ^ z>>27) * mixing2
	return z ^ z>>31, s
}

// Below draws a number from 0 to n - 1; with n below 1 it draws nothing.
//
// It always ends: A runs through all numbers of 64 bits, Next makes a different
// number of each of them, and more than half of these numbers are accepted.
func Below(s api.Stream, n int) (int, api.Stream) {
	if n < 1 {
		return 0, s
	}
	m := uint64(n)
	rest := -m % m // 2^64 modulo n, as -m is 2^64 - n
	last := math.MaxUint64 - rest
	for {
		z, next := Next(s)
		if z <= last {
			return int(z % m), next
		}
		s = next
	}
}

// Chance draws whether a of b equal cases has come; with b below 1 it draws
// nothing.
func Chance(s api.Stream, a, b int) (bool, api.Stream) {
	if b < 1 {
		return false, s
	}
	draw := drawer(&s)
	came := draw(b) < a
	return came, s
}

// Pick draws the place of one of the weights, or -1 if there is none to draw.
func Pick(s api.Stream, weights []int) (int, api.Stream) {
	if len(weights) > api.MaxList {
		return -1, s
	}
	sum := 0
	for _, w := range weights {
		sum += bounded(w)
	}
	draw := drawer(&s) // of a sum of 0 it draws nothing, and no place is found
	place := placeOf(weights, draw(sum))
	return place, s
}

// Shuffle draws an order of the numbers from 0 to n - 1.
func Shuffle(s api.Stream, n int) ([]int, api.Stream, api.Errno) {
	if n > api.MaxList {
		return nil, api.Stream{}, api.ErrLarge
	}
	if n < 0 {
		return nil, api.Stream{}, api.ErrArg
	}
	list := make([]int, n)
	for i := range list {
		list[i] = i
	}
	draw := drawer(&s)
	for i := n - 1; i > 0; i-- {
		j := draw(i + 1)
		list[i], list[j] = list[j], list[i]
	}
	return list, s, api.OK
}

// Skip returns the stream behind n draws of Next, or ahead of -n of them.
func Skip(s api.Stream, n int) api.Stream {
	s.A += uint64(n) * stride
	return s
}

// drawer returns a closure that draws a number below n from s and leaves in s
// the stream behind the draw.
func drawer(s *api.Stream) func(n int) int {
	return func(n int) int {
		k, next := Below(*s, n)
		*s = next
		return k
	}
}

// bounded returns what a weight counts as.
func bounded(weight int) int {
	return min(max(weight, 0), api.MaxWeight)
}

// placeOf returns the first place at which the sum of the weights up to it is
// above k, or -1 if there is none.
func placeOf(weights []int, k int) int {
	sum := 0
	for i, w := range weights {
		sum += bounded(w)
		if sum > k {
			return i
		}
	}
	return -1
}
