package light_test

import (
	"math"
	"slices"
	"strings"
	"testing"

	"spillage/api"
	"spillage/expect"
	"spillage/light"
)

// P1.6

// stream returns a stream of some words with the right checksum.
func stream(width, height byte, words ...uint32) []byte {
	s := []byte{'L', 'M', 'A', 'P', width, height}
	for _, w := range words {
		s = append(s, byte(w>>24), byte(w>>16), byte(w>>8), byte(w))
	}
	return sealed(append(s, 0, 0, 0, 0))
}

func TestPack(t *testing.T) {
	for _, x := range []struct {
		m light.Map
		s []byte
	}{
		{table(2, 1, 1, -0.5), []byte{'L', 'M', 'A', 'P', 2, 1, 63, 128, 0, 0, 191, 0, 0, 0, 0, 213, 234, 45}},
		{table(1, 1, 0), stream(1, 1, 0)},
		{table(1, 1, minusZero()), stream(1, 1, 0)},
		{table(1, 2, minusZero(), 1024), stream(1, 2, 0, 0x44800000)},
		{table(2, 1, -1024, 0.0625), stream(2, 1, 0xc4800000, 0x3d800000)},
	} {
		s, e := light.Pack(x.m)
		expect.Err(t, "Pack", e, api.OK)
		if !slices.Equal(s, x.s) {
			t.Errorf("Pack %v: %v, want %v", x.m, s, x.s)
		}
		m, e := light.Unpack(x.s)
		wantMap(t, "Unpack", m, e, x.m)
	}
	s, e := light.Pack(flat(64, 64, 1023.9375))
	expect.Err(t, "Pack", e, api.OK)
	if len(s) != 16394 || s[4] != 64 || s[5] != 64 {
		t.Fatalf("Pack of the greatest map has %d bytes", len(s))
	}
	m, e := light.Unpack(s)
	wantMap(t, "Unpack of the greatest map", m, e, flat(64, 64, 1023.9375))
}

func TestPackAndPrintOfWrongMaps(t *testing.T) {
	for _, x := range wrongMaps() {
		s, e := light.Pack(x.m)
		expect.Err(t, "Pack", e, x.e)
		text, e := light.Print(x.m)
		expect.Err(t, "Print", e, x.e)
		if len(s) != 0 || text != "" {
			t.Errorf("Pack or Print: %v %q beside an error", s, text)
		}
	}
}

func TestUnpackOfWrongStreams(t *testing.T) {
	one := uint32(0x3f800000)
	s := stream(2, 1, one, one)
	long := slices.Concat(s, make([]byte, 400000))
	for _, x := range []struct {
		what string
		s    []byte
		e    api.Errno
	}{
		{"nothing", nil, api.ErrTorn}, {"a byte", []byte("L"), api.ErrTorn}, {"3 bytes", []byte("LMA"), api.ErrTorn}, {"3 other bytes", []byte("xyz"), api.ErrTorn},
		{"4 other bytes", []byte("LMAp"), api.ErrForm}, {"5 other bytes", []byte("lMAP\x01"), api.ErrForm}, {"4 zeros", make([]byte, 4), api.ErrForm},
		{"another begin", append([]byte("LMAQ"), s[4:]...), api.ErrForm}, {"no width", s[:4], api.ErrTorn}, {"no height", s[:5], api.ErrTorn},
		{"no samples", s[:6], api.ErrTorn}, {"no checksum", s[:14], api.ErrTorn}, {"a byte too few", s[:17], api.ErrTorn},
		{"a byte too many", append(slices.Clone(s), 0), api.ErrShape}, {"a sample too many", stream(1, 1, one, one), api.ErrShape}, {"a sample too few", stream(3, 1, one, one), api.ErrTorn},
		{"a sample too few in all rows", stream(2, 2, one, one), api.ErrTorn},
		{"400000 bytes", long[:400000], api.ErrShape}, {"400001 bytes", long[:400001], api.ErrLong}, {"400001 zeros", make([]byte, 400001), api.ErrLong},
		{"400000 zeros", make([]byte, 400000), api.ErrForm},
		{"the width 0", stream(0, 1), api.ErrRange}, {"the height 0", stream(1, 0), api.ErrRange}, {"no sides", stream(0, 0), api.ErrRange},
		{"the width 0 and a wrong checksum", append([]byte("LMAP"), 0, 1, 0, 0, 0, 0), api.ErrCheck}, {"the width 0, torn", []byte("LMAP\x00\x01\x00\x00\x00"), api.ErrTorn},
		{"the width 0 and a sample", stream(0, 1, one), api.ErrShape},
		{"the width 65", stream(65, 1, make([]uint32, 65)...), api.ErrRange}, {"the height 255", stream(1, 255, make([]uint32, 255)...), api.ErrRange},
		{"the width 65, torn", stream(65, 1, make([]uint32, 64)...), api.ErrTorn}, {"the width 65, and more", stream(65, 1, make([]uint32, 66)...), api.ErrShape},
		{"255 by 255", stream(255, 255, make([]uint32, 255*255)...), api.ErrRange},
		{"NaN", stream(1, 1, 0x7fc00000), api.ErrForm}, {"a signalling NaN", stream(1, 1, 0x7f800001), api.ErrForm}, {"an infinity", stream(1, 1, 0xff800000), api.ErrForm},
		{"1025", stream(1, 1, math.Float32bits(1025)), api.ErrRange}, {"a thirty-second", stream(1, 1, math.Float32bits(0.03125)), api.ErrRange},
		{"the smallest number", stream(1, 1, 1), api.ErrRange},
		{"-0", stream(1, 1, 0x80000000), api.ErrForm}, {"-0 behind 1", stream(2, 1, one, 0x80000000), api.ErrForm}, {"-0 and 1025", stream(2, 1, 0x80000000, math.Float32bits(1025)), api.ErrRange},
		{"65 times -0", stream(65, 1, slices.Repeat([]uint32{0x80000000}, 65)...), api.ErrRange},
	} {
		m, e := light.Unpack(x.s)
		wantNoMap(t, "Unpack of "+x.what, m, e, x.e)
	}
}

func TestUnpackOfChangedBytes(t *testing.T) {
	s := stream(2, 1, 0x3f800000, 0xbf000000)
	for at := 6; at < len(s); at++ {
		changed := slices.Clone(s)
		changed[at] ^= 1
		m, e := light.Unpack(changed)
		wantNoMap(t, "Unpack of a changed byte", m, e, api.ErrCheck)
	}
	m, e := light.Unpack(s)
	wantMap(t, "Unpack", m, e, table(2, 1, 1, -0.5))
}

func TestPrint(t *testing.T) {
	for _, x := range []struct {
		m light.Map
		s string
	}{
		{table(2, 1, 1, -0.5), "map 2 1\nrow 16 -8\n"},
		{table(1, 1, minusZero()), "map 1 1\nrow 0\n"},
		{table(1, 2, 1024, -1024), "map 1 2\nrow 16384\nrow -16384\n"},
		{six(), "map 3 2\nrow 16 32 48\nrow 64 80 96\n"},
		{flat(64, 1, 0.0625), "map 64 1\nrow" + strings.Repeat(" 1", 64) + "\n"},
		{flat(1, 64, -0.0625), "map 1 64\n" + strings.Repeat("row -1\n", 64)},
	} {
		s, e := light.Print(x.m)
		if s != x.s || e != api.OK {
			t.Errorf("Print %v: %q, %d, want %q", x.m, s, e, x.s)
		}
		m, index, e := light.Parse(x.s)
		wantMap(t, "Parse", m, e, x.m)
		if index != 0 {
			t.Errorf("Parse: index %d without an error", index)
		}
	}
}

// wantNoText checks the error of a text and the index of its line.
func wantNoText(t *testing.T, s string, index int, wanted api.Errno) {
	t.Helper()
	m, i, e := light.Parse(s)
	if e != wanted || i != index || !sameMap(m, light.Map{}) {
		t.Errorf("Parse %.60q: %v, line %d, %d, want line %d, %d", s, m, i, e, index, wanted)
	}
}

func TestParseOfWrongFirstLines(t *testing.T) {
	for _, s := range []string{
		"", "\n", " \n", "map", "map\n", "map 1\n", "map 1 1", "map 1 1 1\nrow 1\n", "map 1 1 \nrow 1\n", " map 1 1\nrow 1\n", "map  1 1\nrow 1\n", "map 1  1\nrow 1\n",
		"Map 1 1\nrow 1\n", "row 1\n", "row 1 1\nrow 1\n", "map 1 x\n", "map 01 1\nrow 1\n", "map 1 +1\nrow 1\n", "map 1 -0\n", "map 1 -\n", "map 1 1.0\n", "map 1 1234567890\n",
		"map 1 -1234567890\n", "map\t1 1\nrow 1\n", "map 1 1\r\nrow 1\n", "\nmap 1 1\nrow 1\n", "map1 1\n", "map 1 0x1\n", "map 1 1_0\n", "map 1 \u0661\n", "map 1 \xff\n", "map 1 00\n", "map 1 -01\n",
		"map 1 --1\n", "map 1 1-\n", "\x00", strings.Repeat("x", 1000000), strings.Repeat("\n", 1000000), "map 1 9223372036854775808\n", "map 1 1e1\n", "map 1 1\v\n",
	} {
		wantNoText(t, s, 0, api.ErrSyntax)
	}
}

func TestParseOfWrongRows(t *testing.T) {
	for _, line := range []string{
		"row\n", "row \n", "row 5", "row 05\n", "row 5 \n", "row  5\n", " row 5\n", "Row 5\n", "map 1 1\n", "map 5\n", "\n", " \n", "5\n", "row x\n", "row -0\n", "row 5 -0\n", "row -\n", "row 1 x\n",
		"row 1234567890\n", "row +5\n", "row 5\r\n", "row 5 6", "row -05\n", "row 0x5\n", "row 5.0\n", "rows 5\n", "row5\n", "row\t5\n", "row 00\n", "row 1\u0661\n", "row -1234567890\n", "r", " ",
	} {
		wantNoText(t, "map 1 1\n"+line, 1, api.ErrSyntax)
		wantNoText(t, "map 1 2\nrow 1\n"+line, 2, api.ErrSyntax)
		wantNoText(t, "map 9 9\nrow 99999\nrow 1\n"+line, 3, api.ErrSyntax)
	}
	wantNoText(t, "map 1 1\nrow 1\n\n", 2, api.ErrSyntax)
	wantNoText(t, "map 1 1\nrow x\nrow y\nrow 1", 1, api.ErrSyntax)
	wantNoText(t, "map 1 x\nrow x\n", 0, api.ErrSyntax)
}

func TestParseOfWrongMaps(t *testing.T) {
	for _, x := range []struct {
		s     string
		index int
		e     api.Errno
	}{
		{"map 1 2\nrow 5\n", 2, api.ErrShape}, {"map 1 1\n", 1, api.ErrShape}, {"map 1 1\nrow 5\nrow 5\n", 3, api.ErrShape}, {"map 2 1\nrow 5\n", 2, api.ErrShape},
		{"map 1 1\nrow 5 5\n", 2, api.ErrShape}, {"map 2 2\nrow 5 5\nrow 5\n", 3, api.ErrShape}, {"map 2 2\nrow 5\nrow 5 5\n", 3, api.ErrShape}, {"map 2 2\nrow 5 5 5\nrow 5\n", 3, api.ErrShape},
		{"map 1 1\nrow 99999 99999\n", 2, api.ErrShape}, {"map 0 1\nrow 5\n", 2, api.ErrShape}, {"map 1 -1\nrow 5\n", 2, api.ErrShape}, {"map -1 1\nrow 5\n", 2, api.ErrShape},
		{"map 1 -1\n", 1, api.ErrShape}, {"map 1 999999999\n", 1, api.ErrShape}, {"map 999999999 1\nrow 1\n", 2, api.ErrShape}, {"map 1 0\nrow 1\n", 2, api.ErrShape},
		{"map 1 1\nrow 16385\n", 2, api.ErrLarge}, {"map 1 1\nrow -16385\n", 2, api.ErrLarge}, {"map 1 1\nrow 999999999\n", 2, api.ErrLarge}, {"map 1 1\nrow -999999999\n", 2, api.ErrLarge},
		{"map 2 2\nrow 1 1\nrow 1 16385\n", 3, api.ErrLarge}, {"map 65 1\nrow" + strings.Repeat(" 16385", 65) + "\n", 2, api.ErrLarge},
		{"map 0 0\n", 1, api.ErrRange}, {"map 1 0\n", 1, api.ErrRange}, {"map -1 0\n", 1, api.ErrRange}, {"map 65 1\nrow" + strings.Repeat(" 1", 65) + "\n", 2, api.ErrRange},
		{"map 1 65\n" + strings.Repeat("row 1\n", 65), 66, api.ErrRange}, {"map 65 0\n", 1, api.ErrRange},
	} {
		wantNoText(t, x.s, x.index, x.e)
	}
}

func TestParseUpToTheLimits(t *testing.T) {
	m, index, e := light.Parse("map 64 64\n" + strings.Repeat("row"+strings.Repeat(" -16384", 64)+"\n", 64))
	wantMap(t, "Parse of the greatest map", m, e, flat(64, 64, -1024))
	if index != 0 {
		t.Errorf("Parse: index %d without an error", index)
	}
	m, _, e = light.Parse("map 2 1\nrow 16384 0\n")
	wantMap(t, "Parse", m, e, table(2, 1, 1024, 0))
	long := "map 1 2\nrow 1\nrow" + strings.Repeat(" 1", 499991) + "\n"
	wantNoText(t, long, 3, api.ErrShape)
	if len(long) != 1000000 {
		t.Fatalf("the long text has %d bytes", len(long))
	}
	wantNoText(t, long+"\n", 0, api.ErrLong)
	wantNoText(t, long+"x", 0, api.ErrLong)
	wantNoText(t, strings.Repeat("\x00", 1000001), 0, api.ErrLong)
}
