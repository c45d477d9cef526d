package sun_test

import (
	"slices"
	"strings"
	"testing"

	"spillage/api"
	"spillage/expect"
	"spillage/sun"
)

// P2.4

func TestPrintAndParse(t *testing.T) {
	for _, x := range []struct {
		s    sun.Sky
		text string
	}{
		{day(), "sky s\nsun 0 3 0 0\nsun 10 2 1 2\nsun 20 -1 2 2\n"},
		{turning(), "sky s\nsun 5 0 0 2\nsun 7 0 0 -2\nsun 9 0 0 2\n"},
		{sun.Sky{Name: "Abcdefghij_lmnopqrstuvw9", Suns: []sun.Sun{told(9999999, -4096, 4096, -4096), told(10000000, 4096, -4096, 4096)}}, "sky Abcdefghij_lmnopqrstuvw9\nsun 9999999 -4096 4096 -4096\nsun 10000000 4096 -4096 4096\n"},
		{many(64, 200), "sky many\n" + manyLines(64)},
	} {
		text, e := sun.Print(x.s)
		expect.Result(t, "Print", text, e, x.text, api.OK)
		s, index, e := sun.Parse(x.text)
		if !sameSky(s, x.s) || index != 0 || e != api.OK {
			t.Errorf("Parse %q: %v, line %d, error %d", x.text, s, index, e)
		}
	}
	for _, x := range wrongSkies() {
		text, e := sun.Print(x.x)
		expect.Result(t, "Print of a wrong sky", text, e, "", x.e)
	}
}

// manyLines returns the lines of the suns of many(n, 200).
func manyLines(n int) string {
	var text strings.Builder
	for i := range n {
		text.WriteString("sun " + strings.TrimPrefix(digits(200*i), "0"))
		if i == 0 {
			text.WriteString("0")
		}
		text.WriteString([]string{" 0 1 0\n", " 1 0 0\n"}[i%2])
	}
	return text.String()
}

func digits(n int) string {
	s := ""
	for ; n > 0; n /= 10 {
		s = string(rune('0'+n%10)) + s
	}
	return s
}

// wantNoText checks the error of a text and the index of its line.
func wantNoText(t *testing.T, s string, index int, wanted api.Errno) {
	t.Helper()
	got, i, e := sun.Parse(s)
	if e != wanted || i != index || !sameSky(got, sun.Sky{}) {
		t.Errorf("Parse %.60q: %v, line %d, error %d, want line %d, error %d", s, got, i, e, index, wanted)
	}
}

func TestParseOfWrongFirstLines(t *testing.T) {
	rest := "sun 0 3 0 0\nsun 1 3 0 0\n"
	for _, line := range []string{
		"\n", " \n", "sky\n", "sky \n", "sky  s\n", "sky s \n", " sky s\n", "sky s t\n", "sky s  \n", "Sky s\n", "skys\n", "sky\ts\n", "sun 0 3 0 0\n", "sun s\n", "s\n", "map s\n", "sky s 0 1 2\n", "\xff\n", "\nsky s\n", "sky\r\n", "\x00\n",
	} {
		wantNoText(t, line+rest, 0, api.ErrSyntax)
	}
	for _, s := range []string{"", "sky", "sky s", "\n", "s", " ", "sky s\r", strings.Repeat("x", 4096), strings.Repeat("\n", 4096)} {
		wantNoText(t, s, 0, api.ErrSyntax)
	}
}

func TestParseOfWrongSuns(t *testing.T) {
	for _, line := range []string{
		"sun\n", "sun \n", "sun 0\n", "sun 0 3 0\n", "sun 0 3 0 0 0\n", "sun 0 3 0 0 \n", " sun 0 3 0 0\n", "sun  0 3 0 0\n", "sun 0 3  0 0\n", "Sun 0 3 0 0\n", "sky s\n", "sky 0 3 0 0\n", "\n", " \n", "0 3 0 0\n", "sun0 3 0 0\n",
		"sun 0 3 0 -0\n", "sun -0 3 0 0\n", "sun 00 3 0 0\n", "sun 0 03 0 0\n", "sun 0 3 -01 0\n", "sun 0 +3 0 0\n", "sun 0 3 0 x\n", "sun 0 3.0 0 0\n", "sun 0 3 0 -\n", "sun 0 3 0 --1\n", "sun 0 3 0 1-\n", "sun 0x0 3 0 0\n", "sun 0 1_0 0 0\n", "sun 0 3 0 1e1\n",
		"sun 1234567890 3 0 0\n", "sun 0 -1234567890 0 0\n", "sun 0 3 0 0\r\n", "sun\t0 3 0 0\n", "sun 0 3 0 \u0661\n", "sun 0 3 0 1\xff\n", "sun 0 3 0 9223372036854775808\n", "sun 0 3 0 0", "sun 0 3 0 0 sun\n", "s", " ",
	} {
		wantNoText(t, "sky s\n"+line, 1, api.ErrSyntax)
		wantNoText(t, "sky s\nsun 0 3 0 0\n"+line, 2, api.ErrSyntax)
		wantNoText(t, "sky 9\nsun 0 0 0 0\nsun -1 0 0 0\n"+line, 3, api.ErrSyntax)
	}
	wantNoText(t, "sky s\nsun 0 3 0 0\nsun 1 3 0 0\n\n", 3, api.ErrSyntax)
	wantNoText(t, "sky s\nsun x\nsun y\nsun 1 3 0 0", 1, api.ErrSyntax)
	wantNoText(t, "sky s t\nsun x\n", 0, api.ErrSyntax)
}

func TestParseOfWrongSkies(t *testing.T) {
	for _, x := range []struct {
		s     string
		index int
		e     api.Errno
	}{
		{"sky s\n", 1, api.ErrShort}, {"sky s\nsun 0 3 0 0\n", 2, api.ErrShort}, {"sky 9\n", 1, api.ErrName}, {"sky a-b\nsun 0 3 0 0\nsun 1 3 0 0\n", 3, api.ErrName}, {"sky \xff\n", 1, api.ErrName}, {"sky s\r\n", 1, api.ErrName}, {"sky s\t\n", 1, api.ErrName},
		{"sky abcdefghijklmnopqrstuvwxy\nsun 0 3 0 0\nsun 1 3 0 0\n", 3, api.ErrName}, {"sky sun\nsun 0 3 0 0\nsun -1 3 0 0\n", 3, api.ErrRange}, {"sky s\nsun -1 3 0 0\nsun 1 3 0 0\n", 3, api.ErrRange}, {"sky s\nsun 0 3 0 0\nsun 999999999 3 0 0\n", 3, api.ErrRange},
		{"sky s\nsun 0 3 0 0\nsun 1 999999999 0 0\n", 3, api.ErrRange}, {"sky s\nsun 0 3 0 0\nsun 1 0 -4097 0\n", 3, api.ErrRange}, {"sky s\nsun 0 3 0 0\nsun 0 3 0 0\n", 3, api.ErrOrder}, {"sky s\nsun 0 3 0 0\nsun 201 3 0 0\n", 3, api.ErrSpan},
		{"sky s\nsun 0 3 0 0\nsun 1 0 0 0\n", 3, api.ErrZero}, {"sky s\nsun 0 3 0 0\nsun 1 3 0 1\n", 3, api.ErrShape}, {"sky s\n" + strings.Repeat("sun 0 3 0 0\n", 65), 66, api.ErrMany}, {"sky s\n" + strings.Repeat("sun 0 0 0 0\n", 340), 341, api.ErrMany},
	} {
		wantNoText(t, x.s, x.index, x.e)
	}
}

func TestParseUpToTheLimit(t *testing.T) {
	long := "sky " + strings.Repeat("s", 4091) + "\n"
	if len(long) != 4096 {
		t.Fatalf("the long text has %d bytes", len(long))
	}
	wantNoText(t, long, 1, api.ErrName)
	wantNoText(t, long+"\n", 0, api.ErrLong)
	wantNoText(t, strings.Repeat("x", 4097), 0, api.ErrLong)
	wantNoText(t, "sky s\nsun 0 3 0 0\nsun 1 3 0 0\n"+strings.Repeat("x", 1000000), 0, api.ErrLong)
}

// TestParseSharesNoMemory checks that one result does not change another one, nor an argument.
func TestParseSharesNoMemory(t *testing.T) {
	s := day()
	text, _ := sun.Print(s)
	first, _, _ := sun.Parse(text)
	second, _, _ := sun.Parse(text)
	first.Suns[0] = told(7, 7, 7, 7)
	first.Suns = append(first.Suns[:1], told(8, 8, 8, 8))
	if !sameSky(second, day()) || !sameSky(s, day()) {
		t.Errorf("Parse shares memory: %v %v", second, s)
	}
	l := air()
	before := slices.Clone(l)
	if _, e := sun.Unbent(l, vec(8, 0, 3)); e != api.OK || !slices.Equal(l, before) {
		t.Errorf("Unbent changes its argument: %v", l)
	}
	spans, _ := sun.Daylight(s)
	spans[0] = span(9, 9)
	if again, _ := sun.Daylight(s); !slices.Equal(again, []api.Span{span(1, 21)}) || !sameSky(s, day()) {
		t.Errorf("Daylight shares memory: %v %v", again, s)
	}
}
