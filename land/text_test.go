package land_test

import (
	"slices"
	"strings"
	"testing"

	"hinterland/api"
	"hinterland/land"
)

func TestP2_8Text(t *testing.T) {
	tests := []struct {
		l    api.Land
		want string
	}{
		{flat(4, 4, 0), "aaaaa\naaaaa\naaaaa\naaaaa\naaaaa\n"},
		{picture("abcdefg", "bcdefgh", "cdefghi", "defghij", "efghijk"), "abcdefg\nbcdefgh\ncdefghi\ndefghij\nefghijk\n"},
		{picture("jklmn", "klmno", "lmnop", "lmnop", "klmno", "jklmn"), "jklmn\nklmno\nlmnop\nlmnop\nklmno\njklmn\n"},
	}
	for i, test := range tests {
		if s, e := land.Text(test.l); s != test.want || e != api.OK {
			t.Errorf("land %d: %q, %d", i, s, e)
		}
		l, line, e := land.Parse(test.want)
		if !same(l, test.l) || line != 0 || e != api.OK {
			t.Errorf("text %d: %v, %d, %d", i, l, line, e)
		}
	}
}

func TestP2_8TextThereAndBack(t *testing.T) {
	for seed := range uint64(8) {
		l := grown(t, seed, 4+int(seed)*4, 32-int(seed)*3, int(seed)%5)
		s, e := land.Text(l)
		if e != api.OK || strings.Count(s, "\n") != l.H+1 {
			t.Errorf("seed %d: %q, %d", seed, s, e)
		}
		for _, text := range []string{s, strings.TrimSuffix(s, "\n")} {
			back, line, e := land.Parse(text)
			if !same(back, l) || line != 0 || e != api.OK {
				t.Errorf("seed %d: %v, %d, %d", seed, back, line, e)
			}
		}
	}
}

func TestP2_8ParseSyntax(t *testing.T) {
	four := strings.Repeat("ddddd\n", 4)
	tests := []struct {
		text string
		line int
	}{
		{"", 0},
		{"\n", 1},
		{"\n\n", 1},
		{"\nddddd\n", 1},
		{"q", 1},
		{"`", 1},
		{"A", 1},
		{" \n", 1},
		{"\x00", 1},
		{"\xe1", 1},
		{"ddqdd\n" + four, 1},
		{"ddddd\r\n" + four, 1},
		{four + "dddd\n", 5},
		{four + "dddd", 5},
		{four + "dddddd", 5},
		{four + "ddddq", 5},
		{four + "dddd \n", 5},
		{four + "ddddd\n\n", 6},
		{four + "\nddddd\n", 5},
		{four + "\n", 5},
		{four + "ddddd\r\n", 5},
		{"ddddd\ndddd\nddddq\n", 2},
		{"ddddd\nddddq\ndddd\n", 2},
		{"d\nq\n", 2},
		{"ddddd\nddddé\n", 2},
		{"aaaa\nabcde\n", 2},
		{strings.Repeat("a", 40) + "\n" + strings.Repeat("a", 39) + "?\n", 2},
		{strings.Repeat("a\n", 2000) + "b b", 2001},
	}
	for _, test := range tests {
		l, line, e := land.Parse(test.text)
		if !isNone(l) || line != test.line || e != api.ErrSyntax {
			t.Errorf("%.60q: %v, line %d, %d, want line %d", test.text, l, line, e, test.line)
		}
	}
}

// The errors of Validate come behind those of the lines, and tell no line.
func TestP2_8ParseOfNoLand(t *testing.T) {
	row := func(n int) string { return strings.Repeat("d", n) + "\n" }
	tests := []struct {
		text string
		want api.Errno
	}{
		{"a", api.ErrArg},
		{strings.Repeat("a\n", 5), api.ErrArg},
		{strings.Repeat(row(4), 5), api.ErrArg},
		{strings.Repeat(row(5), 4), api.ErrArg},
		{strings.Repeat(row(34), 5), api.ErrArg},
		{strings.Repeat(row(5), 34), api.ErrArg},
		{strings.Repeat(row(2000), 2000), api.ErrArg},
		{"ac\nca", api.ErrArg},
		{strings.Repeat(row(5), 4) + "ddddb", api.ErrSlope},
		{"dfddd\n" + strings.Repeat(row(5), 4), api.ErrSlope},
		{row(5) + row(5) + "fffff\n" + row(5) + row(5), api.ErrSlope},
	}
	for _, test := range tests {
		l, line, e := land.Parse(test.text)
		if !isNone(l) || line != 0 || e != test.want {
			t.Errorf("%.60q: %v, line %d, %d, want %d", test.text, l, line, e, test.want)
		}
	}
	for _, text := range []string{strings.Repeat(row(5), 5), strings.Repeat(row(33), 33)} {
		if l, line, e := land.Parse(text); line != 0 || e != api.OK || slices.Max(l.Corners) != 3 || slices.Min(l.Corners) != 3 {
			t.Errorf("%.20q: %v, line %d, %d", text, l, line, e)
		}
	}
}
