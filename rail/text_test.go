package rail_test

import (
	"strings"
	"testing"

	"hinterland/api"
	"hinterland/rail"
)

func TestP3_7Text(t *testing.T) {
	signs := bare(8, 8)
	for tile := range signs.Sets {
		signs.Sets[tile] = tile
		signs.Wired[tile] = tile%8 > 0
	}
	tests := []struct {
		r    api.Rails
		want string
	}{
		{bare(4, 4), "0000\n0000\n0000\n0000\n\n....\n....\n....\n....\n"},
		{tracks(map[int]int{0: 1, 4: 63, 7: 10, 15: 2}), "1000o\n00:00\n00000\n20000\n\n.....\n.....\n.....\n.....\n"},
		{signs, "01234567\n89:;<=>?\n@ABCDEFG\nHIJKLMNO\nPQRSTUVW\nXYZ[\\]^_\n`abcdefg\nhijklmno\n\n" + strings.Repeat(".wwwwwww\n", 8)},
	}
	for i, test := range tests {
		if s, e := rail.Text(test.r); s != test.want || e != api.OK {
			t.Errorf("rails %d: %q, %d", i, s, e)
		}
		r, line, e := rail.Parse(test.want)
		if !same(r, test.r) || line != 0 || e != api.OK {
			t.Errorf("text %d: %v, %d, %d", i, r, line, e)
		}
	}
}

func TestP3_7TextThereAndBack(t *testing.T) {
	for seed := range uint64(8) {
		r := scattered(seed, 4+int(seed)*4, 32-int(seed)*4)
		s, e := rail.Text(r)
		if e != api.OK || len(s) != 2*r.H*(r.W+1)+1 {
			t.Errorf("seed %d: %q, %d", seed, s, e)
		}
		for _, text := range []string{s, strings.TrimSuffix(s, "\n")} {
			back, line, e := rail.Parse(text)
			if !same(back, r) || line != 0 || e != api.OK {
				t.Errorf("seed %d: %v, %d, %d", seed, back, line, e)
			}
		}
	}
}

func TestP3_7ParseSyntax(t *testing.T) {
	four, wires := strings.Repeat("1234\n", 4), strings.Repeat(".w.w\n", 4)
	tests := []struct {
		text string
		line int
	}{
		// a first line without signs
		{"", 1},
		{"\n", 1},
		{"\n\n", 1},
		{"\n\n\n", 1},
		{"\n" + four + "\n" + wires, 1},
		// another byte
		{"p", 1},
		{"/", 1},
		{".", 1},
		{"w", 1},
		{" ", 1},
		{"\x00", 1},
		{"\xff", 1},
		{"12é4\n", 1},
		{"1234\r\n" + four, 1},
		{"1234\n123p\n", 2},
		{"1234\n1 34\n", 2},
		{four + "...w\n", 5},
		{four + "\n" + "1234\n", 6},
		{four + "\n" + ".w.x\n" + wires, 6},
		{four + "\n" + ".w0w\n", 6},
		{four + "\n" + ".w.W\n", 6},
		{four + "\n" + wires[:15] + "w.o.", 9},
		{four + "\n" + ".w.\r\n", 6},
		{four + "\r\n" + wires, 5},
		// a line that is not as long as the first one
		{four + "123\n\n" + wires, 5},
		{four + "12345\n\n" + wires, 5},
		{four + "\n" + "...\n" + wires, 6},
		{four + "\n" + ".w.w.\n" + wires, 6},
		{four + "\n\n" + wires, 6},
		{four + "\n" + wires[:10] + "\n" + wires, 8},
		{"1234\n123\n123p\n", 2},
		{"1234\n123p\n123\n", 2},
		// not as many lines behind the empty line
		{four + "\n" + wires + ".w.w\n", 10},
		{four + "\n" + wires + ".w.w", 10},
		{four + "\n" + wires + "\n", 10},
		{four + "\n" + wires + "\n\n", 10},
		{four + "\n" + wires + ".w.w\nx\n", 10},
		{four + "\n" + wires[:15], 9},
		{four + "\n" + wires[:14], 9},
		{four + "\n", 6},
		{four + "\n.w.w", 7},
		{"1\n\n", 3},
		{"1\n1\n\n.\n", 5},
		// no empty line
		{four, 5},
		{four[:19], 5},
		{"1", 2},
		{"1\n", 2},
		{"1\n1", 3},
		{strings.Repeat("o\n", 3000), 3001},
		// ahead of what Validate would say
		{strings.Repeat("1", 40) + "\n" + strings.Repeat("1", 39) + "?\n", 3},
		{"0000\n\nw...\nw...\n", 4},
		{"0000\n\nw..q\n", 3},
	}
	for _, test := range tests {
		r, line, e := rail.Parse(test.text)
		if !isNone(r) || line != test.line || e != api.ErrSyntax {
			t.Errorf("%q: %v, %d, %d, want line %d", test.text, r, line, e, test.line)
		}
	}
}

func TestP3_7ParseWrongRails(t *testing.T) {
	rows := func(w, h int) string {
		return strings.Repeat(strings.Repeat("1", w)+"\n", h) + "\n" + strings.Repeat(strings.Repeat(".", w)+"\n", h)
	}
	four, wires := "0000\n0100\n0000\n0000\n\n", "....\n....\n....\n....\n"
	for _, text := range []string{
		rows(3, 4), rows(4, 3), rows(33, 4), rows(4, 33), rows(1, 1), rows(100, 100), rows(100000, 1), rows(1, 10000),
		four + "w" + wires[1:], four + wires[:18] + "w", four + wires[:7] + "w" + wires[8:],
	} {
		r, line, e := rail.Parse(text)
		if !isNone(r) || line != 0 || e != api.ErrArg {
			t.Errorf("%q: %v, %d, %d", text, r, line, e)
		}
	}
	for _, text := range []string{rows(4, 4), rows(32, 32), rows(32, 4), rows(4, 32), four + wires[:6] + "w" + wires[7:]} {
		r, line, e := rail.Parse(text)
		if rail.Validate(r) != api.OK || line != 0 || e != api.OK {
			t.Errorf("%q: %v, %d, %d", text, r, line, e)
		}
	}
}
