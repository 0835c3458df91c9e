package roll_test

import (
	"hash/fnv"
	"math"
	"math/big"
	"slices"
	"testing"

	"hinterland/api"
	"hinterland/roll"
)

// third is just above a third of 2^64: only two multiples of it fit, so that
// Below rejects a third of the numbers that it draws.
const third = 6148914691236517206

const (
	minInt = math.MinInt
	maxInt = math.MaxInt
)

var none api.Stream

func TestP1_1New(t *testing.T) {
	tests := []struct {
		seed uint64
		name string
		want uint64
	}{
		{0, "", 0},
		{7, "", 7},
		{math.MaxUint64, "", math.MaxUint64},
		{0, "a", 97 * 1099511628211},
		{7, "land", 13935056968827552282},
		{1900, "é\x00ÿ", 15219408494011133342},
	}
	for _, test := range tests {
		if s := roll.New(test.seed, test.name); s.A != test.want {
			t.Errorf("New(%d, %q) = %d, want %d", test.seed, test.name, s.A, test.want)
		}
	}
}

// From the right seed New is the hash FNV-1a, which the library knows.
func TestP1_1NewIsFNV(t *testing.T) {
	seed := fnv.New64a().Sum64()
	for _, name := range []string{"", "a", "foobar", "\xff\xfe\x00", "town 12"} {
		h := fnv.New64a()
		h.Write([]byte(name))
		if s := roll.New(seed, name); s.A != h.Sum64() {
			t.Errorf("New(%d, %q) = %d, want %d", seed, name, s.A, h.Sum64())
		}
	}
}

// From 0 the numbers are those that are published for SplitMix64.
func TestP1_1Next(t *testing.T) {
	s := none
	for i, want := range []uint64{0xe220a8397b1dcdaf, 0x6e789e6aa1b965f4, 0x06c45d188009454f, 0xf88bb8a8724c81ec, 0x1b39896a51a8749b} {
		z, next := roll.Next(s)
		if z != want || next.A != s.A+0x9e3779b97f4a7c15 {
			t.Errorf("draw %d: %#x, %#x", i, z, next.A)
		}
		s = next
	}
}

func TestP1_1Skip(t *testing.T) {
	begin := roll.New(7, "skip")
	s := begin
	for n := range 100 {
		if roll.Skip(begin, n) != s || roll.Skip(s, -n) != begin {
			t.Fatalf("Skip of %d is not the stream behind that many draws", n)
		}
		_, s = roll.Next(s)
	}
	for _, n := range []int{maxInt, minInt, minInt + 1, -1, 1 << 40} {
		want := new(big.Int).Mul(big.NewInt(int64(n)), new(big.Int).SetUint64(11400714819323198485))
		want.Add(want, new(big.Int).SetUint64(begin.A))
		want.Mod(want, twoTo64())
		if got := roll.Skip(begin, n); got.A != want.Uint64() {
			t.Errorf("Skip(%d) = %d, want %d", n, got.A, want)
		}
	}
}

func twoTo64() *big.Int {
	return new(big.Int).Lsh(big.NewInt(1), 64)
}

// below is P1.2 word for word, with numbers that have no limit; it tells how
// many numbers were drawn.
func below(s api.Stream, n int) (int, api.Stream, int) {
	m := big.NewInt(int64(n))
	top := new(big.Int).Div(twoTo64(), m)
	top.Mul(top, m)
	for drawn := 1; ; drawn++ {
		z, next := roll.Next(s)
		s = next
		number := new(big.Int).SetUint64(z)
		if number.Cmp(top) < 0 {
			return int(number.Mod(number, m).Int64()), s, drawn
		}
	}
}

func TestP1_2Below(t *testing.T) {
	s := roll.New(7, "below")
	most := 0
	for _, n := range []int{1, 2, 3, 7, 10, 1000, 1 << 32, 1 << 40, 1 << 62, 1<<62 + 1, third - 1, third, third + 1, maxInt - 1, maxInt} {
		for range 200 {
			k, next := roll.Below(s, n)
			want, behind, drawn := below(s, n)
			if k != want || next != behind {
				t.Fatalf("Below(%v, %d) = %d, %v, want %d, %v", s, n, k, next, want, behind)
			}
			s, most = next, max(most, drawn)
		}
	}
	if most < 3 {
		t.Errorf("at most %d numbers were drawn: nothing was tested of those that are rejected", most)
	}
}

func TestP1_2BelowGolden(t *testing.T) {
	s := roll.New(7, "below")
	tests := []struct{ n, want int }{
		{1, 0}, {2, 0}, {3, 2}, {10, 3}, {1000, 274}, {1 << 40, 557415818504}, {maxInt, 3860480864946101413},
		{third, 3407074789583355945}, {third, 2397719722709484313}, {third, 2750112893275074965},
		{third, 5579095668380904083}, {third, 3290632351073532033},
	}
	for _, test := range tests {
		k, next := roll.Below(s, test.n)
		if k != test.want {
			t.Errorf("Below(%d) = %d, want %d", test.n, k, test.want)
		}
		s = next
	}
	if s.A != 621476812199730170 {
		t.Errorf("the stream behind the draws is %d", s.A)
	}
}

// outOf returns a stream whose next number is z: Next is undone step by step.
func outOf(z uint64) api.Stream {
	z = z ^ z>>31 ^ z>>62
	z *= inverse(10723151780598845931)
	z = z ^ z>>27 ^ z>>54
	z *= inverse(13787848793156543929)
	z = z ^ z>>30 ^ z>>60
	return api.Stream{A: z - 11400714819323198485}
}

func inverse(odd uint64) uint64 {
	x := odd
	for range 6 {
		x *= 2 - odd*x
	}
	return x
}

// The number that is just below the greatest multiple is taken, the multiple
// itself is not; of a power of two every number is taken.
func TestP1_2BelowAtTheBound(t *testing.T) {
	for _, n := range []int{3, 10, third, maxInt} {
		top := math.MaxUint64 / uint64(n) * uint64(n)
		last := outOf(top - 1)
		if k, next := roll.Below(last, n); k != n-1 || next != roll.Skip(last, 1) {
			t.Errorf("below %d the number %d is not taken: %d", n, top-1, k)
		}
		first := outOf(top)
		want, behind, _ := below(roll.Skip(first, 1), n)
		if k, next := roll.Below(first, n); k != want || next != behind {
			t.Errorf("below %d the number %d is taken: %d", n, top, k)
		}
	}
	for _, n := range []int{1, 2, 1 << 20, 1 << 62} {
		s := outOf(math.MaxUint64)
		if k, next := roll.Below(s, n); k != n-1 || next != roll.Skip(s, 1) {
			t.Errorf("below %d the greatest number is not taken: %d", n, k)
		}
	}
}

func TestP1_2BelowOfNone(t *testing.T) {
	s := roll.New(7, "none")
	for _, n := range []int{0, -1, minInt} {
		if k, next := roll.Below(s, n); k != 0 || next != s {
			t.Errorf("Below(%d) = %d, %v", n, k, next)
		}
	}
}

func TestP1_2Chance(t *testing.T) {
	s := roll.New(7, "chance")
	for _, b := range []int{1, 2, 6, 100, third, maxInt} {
		for _, a := range []int{minInt, -1, 0, 1, 3, b - 1, b, maxInt} {
			is, next := roll.Chance(s, a, b)
			k, behind := roll.Below(s, b)
			if is != (k < a) || next != behind {
				t.Errorf("Chance(%d, %d) = %t, %v, but %d was drawn", a, b, is, next, k)
			}
			s = next
		}
	}
	for _, b := range []int{0, -1, minInt} {
		if is, next := roll.Chance(s, maxInt, b); is || next != s {
			t.Errorf("Chance of %d cases = %t, %v", b, is, next)
		}
	}
}

func TestP1_3Pick(t *testing.T) {
	weights := []int{3, -9, 0, 1, 5000000, api.MaxWeight, 0, 700000}
	kept := slices.Clone(weights)
	s := roll.New(7, "pick")
	for i, want := range []int{4, 7, 5, 4, 7, 5, 7, 7, 4, 4, 4, 5, 5, 5, 5, 4} {
		place, next := roll.Pick(s, weights)
		if place != want {
			t.Errorf("pick %d is %d, want %d", i, place, want)
		}
		s = next
	}
	if s.A != 10550926193495237962 {
		t.Errorf("the stream behind the picks is %d", s.A)
	}
	if !slices.Equal(weights, kept) {
		t.Errorf("the weights were changed: %v", weights)
	}
}

// Each k below the sum picks the place in whose share it lies.
func TestP1_3PickOfEachNumber(t *testing.T) {
	weights := []int{0, 2, 1, 0, -5, 3, 0}
	places := []int{1, 1, 2, 5, 5, 5}
	seen := make([]bool, len(places))
	s := roll.New(7, "each")
	for range 200 {
		k, behind := roll.Below(s, len(places))
		place, next := roll.Pick(s, weights)
		if place != places[k] || next != behind {
			t.Fatalf("k %d picks %d, want %d", k, place, places[k])
		}
		s, seen[k] = next, true
	}
	if slices.Contains(seen, false) {
		t.Errorf("not every number was drawn: %v", seen)
	}
}

func TestP1_3PickBoundsWeights(t *testing.T) {
	s := roll.New(7, "bounds")
	for range 100 {
		place, next := roll.Pick(s, []int{maxInt, api.MaxWeight, minInt, api.MaxWeight + 1})
		k, behind := roll.Below(s, 3*api.MaxWeight)
		want := []int{0, 1, 3}[k/api.MaxWeight]
		if place != want || next != behind {
			t.Fatalf("place %d, want %d", place, want)
		}
		s = next
	}
}

func TestP1_3PickOfNone(t *testing.T) {
	s := roll.New(7, "none")
	long := slices.Repeat([]int{1}, api.MaxList+1)
	for _, weights := range [][]int{nil, {}, {0}, {0, -3, minInt}, long} {
		if place, next := roll.Pick(s, weights); place != -1 || next != s {
			t.Errorf("of %d weights %d is picked", len(weights), place)
		}
	}
	k, behind := roll.Below(s, api.MaxList)
	if place, next := roll.Pick(s, long[1:]); place != k || next != behind {
		t.Errorf("of MaxList weights %d is picked, want %d", place, k)
	}
	full := slices.Repeat([]int{maxInt}, api.MaxList)
	k, behind = roll.Below(s, api.MaxList*api.MaxWeight)
	if place, next := roll.Pick(s, full); place != k/api.MaxWeight || next != behind {
		t.Errorf("of MaxList weights of any size %d is picked", place)
	}
}

func TestP1_4Shuffle(t *testing.T) {
	s := roll.New(7, "shuffle")
	tests := []struct {
		n    int
		want []int
		a    uint64
	}{
		{0, nil, 6676082770907195752},
		{1, []int{0}, 6676082770907195752},
		{2, []int{0, 1}, 18076797590230394237},
		{12, []int{0, 2, 6, 4, 10, 5, 3, 1, 8, 9, 7, 11}, 2956737267495517775},
	}
	for _, test := range tests {
		l, next, e := roll.Shuffle(s, test.n)
		if e != api.OK || !slices.Equal(l, test.want) || next.A != test.a {
			t.Errorf("Shuffle(%d) = %v, %v, %d", test.n, l, next, e)
		}
	}
}

// With the draws told by Below, undoing the exchanges gives the ascending list.
func TestP1_4ShuffleUndone(t *testing.T) {
	begin := roll.New(11, "undone")
	for _, n := range []int{2, 3, 50, api.MaxList} {
		l, next, e := roll.Shuffle(begin, n)
		if e != api.OK || len(l) != n {
			t.Fatalf("Shuffle(%d): %d numbers, %d", n, len(l), e)
		}
		places := make([]int, n)
		s := begin
		for i := n - 1; i >= 1; i-- {
			places[i], s = roll.Below(s, i+1)
		}
		if next != s {
			t.Errorf("Shuffle(%d) leaves %v, want %v", n, next, s)
		}
		for i := 1; i < n; i++ {
			l[i], l[places[i]] = l[places[i]], l[i]
		}
		for i, k := range l {
			if i != k {
				t.Fatalf("Shuffle(%d): %d is at the place %d", n, k, i)
			}
		}
	}
}

func TestP1_4ShuffleErrors(t *testing.T) {
	s := roll.New(7, "errors")
	tests := []struct {
		n    int
		want api.Errno
	}{
		{api.MaxList + 1, api.ErrLarge},
		{maxInt, api.ErrLarge},
		{-1, api.ErrArg},
		{minInt, api.ErrArg},
	}
	for _, test := range tests {
		if l, next, e := roll.Shuffle(s, test.n); e != test.want || l != nil || next != none {
			t.Errorf("Shuffle(%d) = %v, %v, %d", test.n, l, next, e)
		}
	}
}

// R5 and R11: equal calls return equal results, in memory of their own.
func TestP1_4ShuffleIsNewMemory(t *testing.T) {
	s := roll.New(7, "memory")
	a, behind, _ := roll.Shuffle(s, 20)
	kept := slices.Clone(a)
	clear(a)
	b, again, _ := roll.Shuffle(s, 20)
	if !slices.Equal(b, kept) || again != behind {
		t.Errorf("the second call returns %v, the first %v", b, kept)
	}
}
