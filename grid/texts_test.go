package grid_test

import (
	"math/rand"
	"slices"
	"strings"
	"testing"

	"spillage/api"
	"spillage/expect"
	"spillage/grid"
)

// P9.4

// textOfP is the text of the plant P of the chapter's examples.
const textOfP = "plant 6 2 4\nquarter 10 5\nquarter 30 3\nquarter 20 0\n"

// wantParsed checks what Parse returns for a text.
func wantParsed(t *testing.T, s string, p grid.Plant, l []grid.Quarter, index int, wanted api.Errno) {
	t.Helper()
	got, quarters, i, e := grid.Parse(s)
	if got != p || !slices.Equal(quarters, l) || i != index || e != wanted {
		t.Errorf("Parse %.60q: got %v, %v, line %d, error %d, want %v, %v, line %d, error %d", s, got, quarters, i, e, p, l, index, wanted)
	}
}

// wantNoPlant checks the error of a text and the index of its line.
func wantNoPlant(t *testing.T, s string, index int, wanted api.Errno) {
	t.Helper()
	wantParsed(t, s, grid.Plant{}, nil, index, wanted)
}

func TestPrintAndParse(t *testing.T) {
	for _, x := range []struct {
		p    grid.Plant
		l    []grid.Quarter
		text string
	}{
		{p(), day(), textOfP}, {plant(0, 0, 0), nil, "plant 0 0 0\n"}, {plant(60, 59, 30), hours(-100000, 30, 100000, 0), "plant 60 59 30\nquarter -100000 30\nquarter 100000 0\n"}, {plant(60, 0, 1), slices.Repeat(hours(-1, 1), 8), "plant 60 0 1\n" + strings.Repeat("quarter -1 1\n", 8)}, {plant(1, 1, 0), hours(0, 0), "plant 1 1 0\nquarter 0 0\n"},
	} {
		text, e := grid.Print(x.p, x.l)
		expect.Result(t, "Print", text, e, x.text, api.OK)
		wantParsed(t, x.text, x.p, x.l, 0, api.OK)
	}
}

// wrongIntegers are words that are no integers of a text.
func wrongIntegers() []string {
	return []string{"", "-", "-0", "00", "01", "-01", "000000001", "+1", "1.0", "1e2", "0x1", "1_0", "1234567890", "-1234567890", "9223372036854775808", "\u0661", "\xff", "--1", "1-", "x", "1x", "x1", "1\r", "1\t", "\x001", "1,"}
}

// wrongLines are lines that do not have the form of a quarter hour.
func wrongLines() []string {
	l := []string{
		"\n", " \n", "x\n", "quarter\n", "quarter \n", "quarter 1\n", "quarter 1 \n", "quarter  1\n", "quarter 1 2 \n", "quarter 1  2\n", "quarter  1 2\n", " quarter 1 2\n", "quarter 1 2 3\n", "quarters 1 2\n", "Quarter 1 2\n", "QUARTER 1 2\n", "quarte 1 2\n", "quarter1 2\n", "quarter\t1 2\n", "quarter 1\t2\n", "1 2\n", "plant 1\n", "plant 1 2\n", "plant 6 2 4\n", "hour 1 2\n", "quarter quarter 1 2\n", "quarter 1 2\r\n", "\xff\n",
		"quarter 1 2", "quarter 1 2\r", "quarter", " ", "x", "\xff", "plant 6 2 4",
	}
	for _, word := range wrongIntegers() {
		l = append(l, "quarter "+word+" 2\n", "quarter 1 "+word+"\n", "quarter "+word+" "+word+"\n")
	}
	return l
}

func TestParseOfWrongLines(t *testing.T) {
	for _, line := range wrongLines() {
		wantNoPlant(t, "plant 6 2 4\n"+line, 1, api.ErrSyntax)
		wantNoPlant(t, "plant 61 0 0\nquarter 999999999 -999999999\n"+line, 2, api.ErrSyntax)
		wantNoPlant(t, textOfP+line, 4, api.ErrSyntax)
		wantNoPlant(t, "plant 6 2 4\n"+strings.Repeat("quarter 1 2\n", 9)+line, 10, api.ErrSyntax)
		if strings.HasSuffix(line, "\n") {
			wantNoPlant(t, "plant 6 2 4\n"+line+"x\n", 1, api.ErrSyntax)
			wantNoPlant(t, "plant 6 2 4\n"+line+"quarter 1 2\n", 1, api.ErrSyntax)
		}
	}
}

func TestParseOfTheFirstLine(t *testing.T) {
	l := []string{
		"", "\n", " ", "plant", "plant\n", "plant \n", "plant 6 2 4", "plant 6 2\n", "plant 6 2 \n", "plant 6 2 4 \n", "plant 6 2 4 1\n", "plant  6 2 4\n", "plant 6  2 4\n", " plant 6 2 4\n", "plants 6 2 4\n", "Plant 6 2 4\n", "plan 6 2 4\n", "plant6 2 4\n", "plant\t6 2 4\n", "6 2 4\n", "plant 6 2 4\r\n", "quarter 10 5\n", "quarter 10 5 1\n", "quarter 10 5\nplant 6 2 4\n", "\nplant 6 2 4\n", "x\n" + textOfP,
	}
	for _, word := range wrongIntegers() {
		for i := range 3 {
			words := strings.Split("6 2 4", " ")
			words[i] = word
			l = append(l, "plant "+strings.Join(words, " ")+"\n", "plant "+strings.Join(words, " ")+"\nquarter 1 2\n")
		}
	}
	for _, s := range l {
		wantNoPlant(t, s, 0, api.ErrSyntax)
	}
}

// TestParseOfWrongPlants checks that each error of CheckOffers that a text can have is found behind its last line.
func TestParseOfWrongPlants(t *testing.T) {
	for _, x := range []struct {
		s     string
		lines int
		e     api.Errno
	}{
		{"plant 61 0 0\n", 1, api.ErrRange}, {"plant -1 0 0\n", 1, api.ErrRange}, {"plant 999999999 2 4\n", 1, api.ErrRange}, {"plant 6 7 4\n", 1, api.ErrRange}, {"plant 6 -1 4\n", 1, api.ErrRange}, {"plant 6 2 31\n", 1, api.ErrRange}, {"plant 6 2 -999999999\n", 1, api.ErrRange}, {"plant 6 2 4\nquarter 100001 0\n", 2, api.ErrRange}, {"plant 6 2 4\nquarter -100001 0\n", 2, api.ErrRange}, {"plant 6 2 4\nquarter 10 31\n", 2, api.ErrRange}, {"plant 6 2 4\nquarter 10 -1\nquarter 10 1\n", 3, api.ErrRange}, {"plant 6 7 4\nquarter 10 1\n", 2, api.ErrRange},
		{"plant 6 2 4\n" + strings.Repeat("quarter 1 2\n", 9), 10, api.ErrMany}, {"plant 6 2 4\n" + strings.Repeat("quarter 1 99\n", 9), 10, api.ErrMany}, {"plant 6 7 4\n" + strings.Repeat("quarter 1 2\n", 9), 10, api.ErrRange}, {"plant 6 2 4\n" + strings.Repeat("quarter 0 0\n", 340), 341, api.ErrMany},
	} {
		wantNoPlant(t, x.s, x.lines, x.e)
		wantNoPlant(t, x.s+"\n", x.lines, api.ErrSyntax)
	}
}

func TestParseUpToTheLimit(t *testing.T) {
	full := "plant 6 2 4\n" + strings.Repeat("quarter 1 2\n", 339) + "quarter 1 23456\n"
	if len(full) != 4096 {
		t.Fatalf("the text has %d bytes", len(full))
	}
	wantNoPlant(t, full, 341, api.ErrMany)
	wantNoPlant(t, full[:4095], 340, api.ErrSyntax)
	wantNoPlant(t, full[:4095]+"x", 340, api.ErrSyntax)
	for _, s := range []string{full + "\n", full + "x", full[:4095] + "xx", strings.Repeat("x", 4097), strings.Repeat("\n", 4097), textOfP + strings.Repeat(" ", 4096), "x\n" + strings.Repeat("x", 1000000), strings.Repeat("\u00e4", 2049)} {
		wantNoPlant(t, s, 0, api.ErrLong)
	}
	wantNoPlant(t, strings.Repeat("x", 4096), 0, api.ErrSyntax)
	wantNoPlant(t, strings.Repeat("\n", 4096), 0, api.ErrSyntax)
	wantNoPlant(t, "plant 6 2 4\n"+strings.Repeat("x", 4084), 1, api.ErrSyntax)
}

func TestTextsOfRandomPlants(t *testing.T) {
	rnd := rand.New(rand.NewSource(16))
	for range 3000 {
		p, l := randomPlant(rnd, 60, 30), randomDay(rnd, rnd.Intn(9), 100000, 30)
		s, e := grid.Print(p, l)
		expect.Err(t, "Print", e, api.OK)
		wantParsed(t, s, p, l, 0, api.OK)
	}
}
