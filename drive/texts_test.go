package drive_test

import (
	"slices"
	"strings"
	"testing"

	"spillage/api"
	"spillage/drive"
	"spillage/expect"
)

// P3.4

func TestPrintAndParse(t *testing.T) {
	var lines strings.Builder
	for i := range 64 {
		lines.WriteString("band " + number(i-32) + " " + number(i) + " " + number(i+1) + "\n")
	}
	for _, x := range []struct {
		m    []drive.Band
		text string
	}{
		{five(), "band 5 100 102\n"}, {model(band(0, 0, 0)), "band 0 0 0\n"}, {model(band(-5, -3, -1), band(10, -7, 20)), "band -5 -3 -1\nband 10 -7 20\n"}, {bands(64), lines.String()},
		{model(band(-1000, -2000000, -2000000), band(-999, -2000000, 2000000), band(1000, 2000000, 2000000)), "band -1000 -2000000 -2000000\nband -999 -2000000 2000000\nband 1000 2000000 2000000\n"},
	} {
		text, e := drive.Print(x.m)
		expect.Result(t, "Print", text, e, x.text, api.OK)
		expect.Parsed(t, drive.Parse, x.text, x.m, 0, api.OK)
	}
	for _, x := range wrongModels() {
		text, e := drive.Print(x.x)
		expect.Result(t, "Print of a wrong model", text, e, "", x.e)
	}
}

// number returns the decimal form of an integer.
func number(n int) string {
	if n < 0 {
		return "-" + number(-n)
	}
	if n < 10 {
		return string(rune('0' + n))
	}
	return number(n/10) + string(rune('0'+n%10))
}

// wantNoText checks the error of a text and the index of its line.
func wantNoText(t *testing.T, s string, index int, wanted api.Errno) {
	t.Helper()
	expect.Parsed(t, drive.Parse, s, nil, index, wanted)
}

func TestParseOfWrongLines(t *testing.T) {
	for _, line := range []string{
		"\n", " \n", "band\n", "band \n", "band 5\n", "band 5 1\n", "band 6 1\n", "band 5 1 2 3\n", "band 5 1 2 \n", " band 5 1 2\n", "band  5 1 2\n", "band 5  1 2\n", "band 5 1  2\n", "Band 5 1 2\n", "bands 5 1 2\n", "ban 5 1 2\n", "5 1 2\n", "band5 1 2\n", "sun 5 1 2\n", "row 5 1 2\n", "band band 5 1 2\n",
		"band 5 1 -0\n", "band -0 1 2\n", "band 05 1 2\n", "band 5 01 2\n", "band 5 -01 2\n", "band 5 +1 2\n", "band 5 1 x\n", "band 5 1.0 2\n", "band 5 - 2\n", "band 5 --1 2\n", "band 5 1- 2\n", "band 0x5 1 2\n", "band 5 1_0 20\n", "band 5 1e1 20\n", "band five 1 2\n",
		"band 1234567890 1 2\n", "band 5 -1234567890 2\n", "band 5 1 0000000002\n", "band 5 1 2\r\n", "band\t5 1 2\n", "band 5 1\t2\n", "band 5 1 \u0662\n", "band 5 1 2\xff\n", "\xff\n", "band 5 1 9223372036854775808\n", "band 5 1 2", "band", "b", " ", "band 5 1 2\x00\n",
	} {
		wantNoText(t, line, 0, api.ErrSyntax)
		wantNoText(t, "band 5 100 102\n"+line, 1, api.ErrSyntax)
		wantNoText(t, "band 2000 0 0\nband 5 2 1\nband 5 1 2\n"+line, 3, api.ErrSyntax)
	}
	wantNoText(t, "band 5 100 102\n\n", 1, api.ErrSyntax)
	wantNoText(t, "band 5 100 102\nband x\nband y\nband 7 1 2", 1, api.ErrSyntax)
	wantNoText(t, strings.Repeat("band 5 1 2\n", 66)+"x\n", 66, api.ErrSyntax)
}

func TestParseOfWrongModels(t *testing.T) {
	for _, x := range []struct {
		s     string
		index int
		e     api.Errno
	}{
		{"", 0, api.ErrEmpty}, {"band 5 100 102\nband 5 1 2\n", 2, api.ErrOrder}, {"band 5 100 102\nband 4 1 2\nband 6 1 2\n", 3, api.ErrOrder}, {"band 5 2 1\n", 1, api.ErrOrder}, {"band 1001 1 2\n", 1, api.ErrRange}, {"band -1001 1 2\n", 1, api.ErrRange}, {"band 5 -2000001 2\n", 1, api.ErrRange}, {"band 5 1 2000001\n", 1, api.ErrRange}, {"band 5 1 999999999\n", 1, api.ErrRange}, {"band -999999999 1 2\nband 5 2 1\n", 2, api.ErrRange},
		{strings.Repeat("band 5 1 2\n", 65), 65, api.ErrMany}, {strings.Repeat("band 0 0 0\n", 372), 372, api.ErrMany},
	} {
		wantNoText(t, x.s, x.index, x.e)
	}
}

func TestParseUpToTheLimit(t *testing.T) {
	long := strings.Repeat("band 0 0 0\n", 371) + "band 0 0 0 0 0\n"
	if len(long) != 4096 {
		t.Fatalf("the long text has %d bytes", len(long))
	}
	wantNoText(t, long, 371, api.ErrSyntax)
	wantNoText(t, long+"\n", 0, api.ErrLong)
	wantNoText(t, strings.Repeat("x", 4096), 0, api.ErrSyntax)
	wantNoText(t, strings.Repeat("x", 4097), 0, api.ErrLong)
	wantNoText(t, "band 5 100 102\n"+strings.Repeat("x", 1000000), 0, api.ErrLong)
}

// TestParseSharesNoMemory checks that one result does not change another one.
func TestParseSharesNoMemory(t *testing.T) {
	first, _, _ := drive.Parse("band 5 100 102\n")
	second, _, _ := drive.Parse("band 5 100 102\n")
	first[0] = band(9, 9, 9)
	if !slices.Equal(second, five()) {
		t.Errorf("Parse shares memory: %v", second)
	}
}
