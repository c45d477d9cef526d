package salt_test

import (
	"math/rand"
	"strings"
	"testing"

	"spillage/api"
	"spillage/expect"
	"spillage/salt"
)

// P8.4

// textOfT is the text of the tank T of the chapter's examples.
const textOfT = "tank 100\nlayer 10 200\nlayer 20 800\n"

// wantParsed checks what Parse returns for a text.
func wantParsed(t *testing.T, s string, wanted salt.Tank, index int, wantedErr api.Errno) {
	t.Helper()
	x, i, e := salt.Parse(s)
	if !sameTank(x, wanted) || i != index || e != wantedErr {
		t.Errorf("Parse %.60q: got %v, line %d, error %d, want %v, line %d, error %d", s, x, i, e, wanted, index, wantedErr)
	}
}

func TestPrintAndParse(t *testing.T) {
	for _, x := range []struct {
		t    salt.Tank
		text string
	}{
		{shown(), textOfT}, {tank(100), "tank 100\n"}, {tank(1), "tank 1\n"}, {tank(1000000), "tank 1000000\n"}, {tank(1, 1, 0), "tank 1\nlayer 1 0\n"}, {tank(1000000, 1000000, 1000000000), "tank 1000000\nlayer 1000000 1000000000\n"}, {tank(7, 1, 0, 2, 999999999), "tank 7\nlayer 1 0\nlayer 2 999999999\n"}, {tower(3), "tank 100\nlayer 1 0\nlayer 1 2\nlayer 1 4\n"},
	} {
		text, e := salt.Print(x.t)
		expect.Result(t, "Print", text, e, x.text, api.OK)
		wantParsed(t, x.text, x.t, 0, api.OK)
	}
	text, e := salt.Print(tower(16))
	if strings.Count(text, "\n") != 17 || e != api.OK {
		t.Errorf("Print of 16 layers: %q, error %d", text, e)
	}
	wantParsed(t, text, tower(16), 0, api.OK)
}

// wrongWordsOfIntegers are words that are no integers of a text.
func wrongWordsOfIntegers() []string {
	return []string{"", "-1", "-0", "00", "01", "000", "0000000001", "+1", "1.0", "1e2", "0x1", "1_0", "10000000000", "00000000000", "9223372036854775808", "99999999999999999999", "\u0661", "\xff", "--1", "-", "x", "1x", "x1", "1\r", "1\t", "\x001", "1,"}
}

// wrongLines are lines that do not have the form of a layer.
func wrongLines() []string {
	l := []string{
		"\n", " \n", "x\n", "layer\n", "layer \n", "layer 1\n", "layer 1 \n", "layer  1\n", "layer 1 2 \n", "layer 1  2\n", "layer  1 2\n", " layer 1 2\n", "layer 1 2 3\n", "layers 1 2\n", "Layer 1 2\n", "LAYER 1 2\n", "laye 1 2\n", "layer1 2\n", "layer\t1 2\n", "layer 1\t2\n", "1 2\n", "tank 1\n", "tank 100\n", "tank 1 2\n", "layer a 1 2\n", "layer 1 2\r\n", "\xff\n",
		"layer 1 2", "layer 1 2\r", "layer", " ", "x", "\xff", "tank 100",
	}
	for _, word := range wrongWordsOfIntegers() {
		l = append(l, "layer "+word+" 2\n", "layer 1 "+word+"\n", "layer "+word+" "+word+"\n")
	}
	return l
}

func TestParseOfWrongLines(t *testing.T) {
	for _, line := range wrongLines() {
		wantParsed(t, "tank 100\n"+line, salt.Tank{}, 1, api.ErrSyntax)
		wantParsed(t, "tank 0\nlayer 0 9999999999\n"+line, salt.Tank{}, 2, api.ErrSyntax)
		wantParsed(t, textOfT+line, salt.Tank{}, 3, api.ErrSyntax)
		if strings.HasSuffix(line, "\n") {
			wantParsed(t, "tank 100\n"+line+"x\n", salt.Tank{}, 1, api.ErrSyntax)
			wantParsed(t, "tank 100\n"+line+textOfT, salt.Tank{}, 1, api.ErrSyntax)
		}
	}
}

func TestParseOfTheFirstLine(t *testing.T) {
	l := []string{
		"", "\n", " ", "tank", "tank\n", "tank \n", "tank 100", "tank 100 \n", "tank  100\n", " tank 100\n", "tank 100 100\n", "tank a 100\n", "tanks 100\n", "Tank 100\n", "tank100\n", "tan 100\n", "tank\t100\n", "100\n", "tank 100\r\n", "layer 1 2\n", "layer 1\n", "layer 1 2\ntank 100\n", "\ntank 100\n", "x\n" + textOfT,
	}
	for _, word := range wrongWordsOfIntegers() {
		l = append(l, "tank "+word+"\n", "tank "+word+"\nlayer 1 2\n")
	}
	for _, s := range l {
		wantParsed(t, s, salt.Tank{}, 0, api.ErrSyntax)
	}
}

// TestParseOfWrongTanks checks that each error of a tank that has a text is found behind its last line.
func TestParseOfWrongTanks(t *testing.T) {
	for _, x := range []struct {
		s     string
		lines int
		e     api.Errno
	}{
		{"tank 0\n", 1, api.ErrRange}, {"tank 1000001\n", 1, api.ErrRange}, {"tank 9999999999\n", 1, api.ErrRange}, {"tank 100\nlayer 0 0\n", 2, api.ErrRange}, {"tank 100\nlayer 1000001 0\n", 2, api.ErrRange}, {"tank 100\nlayer 1 1000000001\n", 2, api.ErrRange}, {"tank 100\nlayer 1 9999999999\n", 2, api.ErrRange}, {"tank 100\nlayer 9999999999 9999999999\n", 2, api.ErrRange}, {"tank 100\nlayer 1 2\nlayer 1 2\n", 3, api.ErrOrder}, {"tank 100\nlayer 1 2\nlayer 2 3\nlayer 0 0\n", 4, api.ErrOrder}, {"tank 100\nlayer 101 0\n", 2, api.ErrLarge}, {"tank 100\nlayer 60 0\nlayer 41 1\n", 3, api.ErrLarge}, {"tank 100\nlayer 2 500000001\nlayer 1 500000000\n", 3, api.ErrOver},
		{"tank 0\nlayer 0 0\n", 2, api.ErrRange}, {"tank 100\n" + strings.Repeat("layer 1 2\n", 17), 18, api.ErrMany}, {"tank 0\n" + strings.Repeat("layer 1 2\n", 17), 18, api.ErrRange}, {"tank 100\n" + strings.Repeat("layer 0 0\n", 408), 409, api.ErrMany},
	} {
		wantParsed(t, x.s, salt.Tank{}, x.lines, x.e)
		wantParsed(t, x.s+"\n", salt.Tank{}, x.lines, api.ErrSyntax)
	}
}

func TestParseUpToTheLimit(t *testing.T) {
	full := "tank 1\n" + strings.Repeat("layer 1 2\n", 407) + "layer 1 1234567890\n"
	if len(full) != 4096 {
		t.Fatalf("the text has %d bytes", len(full))
	}
	wantParsed(t, full, salt.Tank{}, 409, api.ErrMany)
	wantParsed(t, full[:4095], salt.Tank{}, 408, api.ErrSyntax)
	wantParsed(t, full[:4095]+"x", salt.Tank{}, 408, api.ErrSyntax)
	for _, s := range []string{full + "\n", full + "x", full[:4095] + "xx", strings.Repeat("x", 4097), strings.Repeat("\n", 4097), textOfT + strings.Repeat(" ", 4096), "x\n" + strings.Repeat("x", 1000000), strings.Repeat("\u00e4", 2049)} {
		wantParsed(t, s, salt.Tank{}, 0, api.ErrLong)
	}
	wantParsed(t, strings.Repeat("x", 4096), salt.Tank{}, 0, api.ErrSyntax)
	wantParsed(t, strings.Repeat("\n", 4096), salt.Tank{}, 0, api.ErrSyntax)
	wantParsed(t, "tank 100\n"+strings.Repeat("x", 4087), salt.Tank{}, 1, api.ErrSyntax)
}

func TestTextsOfRandomTanks(t *testing.T) {
	rnd := rand.New(rand.NewSource(7))
	for range 3000 {
		x := randomTank(rnd, 16, pick(rnd, 5, 50000))
		s, e := salt.Print(x)
		expect.Err(t, "Print", e, api.OK)
		wantParsed(t, s, x, 0, api.OK)
	}
}
