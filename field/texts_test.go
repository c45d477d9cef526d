package field_test

import (
	"slices"
	"strings"
	"testing"

	"spillage/api"
	"spillage/expect"
	"spillage/field"
)

// P4.5

const (
	lineA = "mirror a 0 0 10 4 0 0 0 4 0\n"
	lineB = "mirror b 0 0 20 2 0 0 0 4 0\n"
)

func TestPrintAndParse(t *testing.T) {
	for _, x := range []struct {
		l    []field.Mirror
		text string
	}{
		{nil, ""}, {mirrors(a()), lineA}, {mirrors(b(), a()), lineB + lineA}, {mirrors(steep()), "mirror Abcdefghij_lmnopqrstuvw9 -4096 4096 4096 64 -64 64 64 64 -64\n"},
		{mirrors(field.Mirror{Name: "mirror", Centre: vec(1, -2, 3), U: vec(-4, 5, -6), V: vec(7, -8, 10)}), "mirror mirror 1 -2 3 -4 5 -6 7 -8 10\n"},
	} {
		text, e := field.Print(x.l)
		expect.Result(t, "Print", text, e, x.text, api.OK)
		expect.Parsed(t, field.Parse, x.text, x.l, 0, api.OK)
	}
	for _, x := range wrongFields() {
		text, e := field.Print(x.x)
		expect.Result(t, "Print of no field", text, e, "", x.e)
	}
}

// wantNoText checks the error of a text and the index of its line.
func wantNoText(t *testing.T, s string, index int, wanted api.Errno) {
	t.Helper()
	expect.Parsed(t, field.Parse, s, nil, index, wanted)
}

func TestParseOfWrongLines(t *testing.T) {
	for _, line := range []string{
		"\n", " \n", "mirror\n", "mirror \n", "mirror a\n", "mirror a \n", "mirror a 0 0 10 4 0 0 0 4\n", "mirror a 0 0 10 4 0 0 0 4 0 0\n", "mirror a 0 0 10 4 0 0 0 4 0 \n", " mirror a 0 0 10 4 0 0 0 4 0\n", "mirror  a 0 0 10 4 0 0 0 4 0\n", "mirror  0 0 10 4 0 0 0 4 0\n", "mirror a  0 0 10 4 0 0 0 4 0\n", "mirror a 0 0 10 4 0 0 0 4  0\n", "mirror 0 0 10 4 0 0 0 4 0\n", "mirror a b 0 0 10 4 0 0 0 4 0\n",
		"Mirror a 0 0 10 4 0 0 0 4 0\n", "mirrors a 0 0 10 4 0 0 0 4 0\n", "mirro a 0 0 10 4 0 0 0 4 0\n", "a 0 0 10 4 0 0 0 4 0\n", "mirrora 0 0 10 4 0 0 0 4 0\n", "band a 0 0 10 4 0 0 0 4 0\n", "mirror\ta 0 0 10 4 0 0 0 4 0\n", "mirror a\t0 0 10 4 0 0 0 4 0\n",
		"mirror a -0 0 10 4 0 0 0 4 0\n", "mirror a 0 0 10 4 0 0 0 4 -0\n", "mirror a 00 0 10 4 0 0 0 4 0\n", "mirror a 0 0 010 4 0 0 0 4 0\n", "mirror a 0 0 -010 4 0 0 0 4 0\n", "mirror a 0 0 +10 4 0 0 0 4 0\n", "mirror a 0 0 x 4 0 0 0 4 0\n", "mirror a 0 0 1x 4 0 0 0 4 0\n", "mirror a 0 0 1.0 4 0 0 0 4 0\n", "mirror a 0 0 - 4 0 0 0 4 0\n", "mirror a 0 0 --1 4 0 0 0 4 0\n", "mirror a 0 0 1_0 4 0 0 0 4 0\n", "mirror a 0 0 0x1 4 0 0 0 4 0\n", "mirror a 0 0 1e1 4 0 0 0 4 0\n",
		"mirror a 1234567890 0 10 4 0 0 0 4 0\n", "mirror a 0 0 10 4 0 0 0 4 -1234567890\n", "mirror a 0 0 0000000010 4 0 0 0 4 0\n", "mirror a 0 0 10 4 0 0 0 4 0\r\n", "mirror a 0 0 \u0661 4 0 0 0 4 0\n", "mirror a 0 0 10 4 0 0 0 4 0\xff\n", "\xff\n", "mirror a 0 0 9223372036854775808 4 0 0 0 4 0\n", "mirror a 0 0 10 4 0 0 0 4 0", "mirror", "m", " ", "mirror a 0 0 10 4 0 0 0 4 0\x00\n",
	} {
		wantNoText(t, line, 0, api.ErrSyntax)
		wantNoText(t, lineB+line, 1, api.ErrSyntax)
		wantNoText(t, "mirror 9 5000 0 0 0 0 0 0 0 0\n"+lineA+lineA+line+lineA, 3, api.ErrSyntax)
	}
	wantNoText(t, lineA+"\n", 1, api.ErrSyntax)
	wantNoText(t, lineA+"mirror x\nmirror y\n"+strings.TrimSuffix(lineB, "\n"), 1, api.ErrSyntax)
	wantNoText(t, strings.Repeat(lineA, 66)+"x\n", 66, api.ErrSyntax)
}

func TestParseOfWrongFields(t *testing.T) {
	for _, x := range []struct {
		s     string
		index int
		e     api.Errno
	}{
		{lineA + lineA, 2, api.ErrTwice}, {lineA + lineB + lineA + lineB, 4, api.ErrTwice}, {"mirror 9 0 0 10 4 0 0 0 4 0\n", 1, api.ErrName}, {lineA + "mirror a-b 0 0 10 4 0 0 0 4 0\n" + lineA, 3, api.ErrName}, {"mirror \xff 0 0 10 4 0 0 0 4 0\n", 1, api.ErrName}, {"mirror a\t 0 0 10 4 0 0 0 4 0\n", 1, api.ErrName}, {"mirror abcdefghijklmnopqrstuvwxy 0 0 10 4 0 0 0 4 0\n", 1, api.ErrName}, {"mirror 0 0 0 10 4 0 0 0 4 0\n", 1, api.ErrName},
		{"mirror a 4097 0 10 4 0 0 0 4 0\n", 1, api.ErrRange}, {"mirror a 0 -4097 10 4 0 0 0 4 0\n", 1, api.ErrRange}, {"mirror a 0 0 999999999 4 0 0 0 4 0\n", 1, api.ErrRange}, {"mirror a 0 0 10 65 0 0 0 4 0\n", 1, api.ErrRange}, {"mirror a 0 0 10 4 0 0 0 4 -65\n", 1, api.ErrRange}, {lineA + "mirror b 0 0 10 4 0 0 0 -999999999 0\n", 2, api.ErrRange},
		{"mirror a 0 0 10 4 0 0 0 0 0\n", 1, api.ErrSingular}, {"mirror a 0 0 10 4 2 0 -2 -1 0\n" + lineA, 2, api.ErrSingular}, {strings.Repeat(lineA, 65), 65, api.ErrMany}, {strings.Repeat("mirror 9 0 0 0 0 0 0 0 0 0\n", 150), 150, api.ErrMany},
	} {
		wantNoText(t, x.s, x.index, x.e)
	}
}

func TestParseUpToTheLimit(t *testing.T) {
	long := lineA + "mirror " + strings.Repeat("x", 4096-len(lineA)-len("mirror  0 0 10 4 0 0 0 4 0\n")) + " 0 0 10 4 0 0 0 4 0\n"
	if len(long) != 4096 {
		t.Fatalf("the long text has %d bytes", len(long))
	}
	wantNoText(t, long, 2, api.ErrName)
	wantNoText(t, long+"\n", 0, api.ErrLong)
	wantNoText(t, strings.Repeat("x", 4096), 0, api.ErrSyntax)
	wantNoText(t, strings.Repeat("x", 4097), 0, api.ErrLong)
	wantNoText(t, lineA+strings.Repeat("x", 1000000), 0, api.ErrLong)
}

// TestTextsThatAreLong checks that the text of mirrors may have more bytes than a text that is parsed.
func TestTextsThatAreLong(t *testing.T) {
	l := row(64)
	for i := range l {
		l[i].Name = "abcdefghijklmnopqrstuv" + string([]byte{'a' + byte(i/8), 'a' + byte(i%8)})
		l[i].Centre, l[i].U, l[i].V = vec(-4096, -4096, -4096), vec(-64, -64, -64), vec(-64, 64, -64)
	}
	text, e := field.Print(l)
	expect.Err(t, "Print", e, api.OK)
	if lines := strings.Count(text, "\n"); len(text) != 64*73 || lines != 64 {
		t.Errorf("the text has %d lines and %d bytes", lines, len(text))
	}
	wantNoText(t, text, 0, api.ErrLong)
	text, e = field.Print(l[:56])
	expect.Err(t, "Print", e, api.OK)
	expect.Parsed(t, field.Parse, text, l[:56], 0, api.OK)
}

// TestParseSharesNoMemory checks that one result does not change another one.
func TestParseSharesNoMemory(t *testing.T) {
	first, _, _ := field.Parse(lineA + lineB)
	second, _, _ := field.Parse(lineA + lineB)
	first[0] = c()
	if !slices.Equal(second, mirrors(a(), b())) {
		t.Errorf("Parse shares memory: %v", second)
	}
}
