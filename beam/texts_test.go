package beam_test

import (
	"strings"
	"testing"

	"spillage/api"
	"spillage/beam"
	"spillage/expect"
)

// P6.5

// textOfG is the text of the grid G of the chapter's examples.
const textOfG = "grid 5\nstation f focus 500 500\nstation a standby 400 500\nstation b standby 500 300\nstation s stow 0 0\nmove 0 1 4\nmove 0 2 6\nmove 1 2 3\nmove 1 3 10\nmove 2 3 9\nzone bird 500 400 20\n"

// wantGrid checks what Parse returns for a text.
func wantGrid(t *testing.T, s string, wanted beam.Grid, index int, wantedErr api.Errno) {
	t.Helper()
	g, i, e := beam.Parse(s)
	if !sameGrid(g, wanted) || i != index || e != wantedErr {
		t.Errorf("Parse %.60q: got %v, line %d, error %d, want %v, line %d, error %d", s, g, i, e, wanted, index, wantedErr)
	}
}

func TestPrintAndParse(t *testing.T) {
	for _, x := range []struct {
		g    beam.Grid
		text string
	}{
		{plane(), textOfG}, {beam.Grid{}, "grid 0\n"}, {beam.Grid{Blur: 100}, "grid 100\n"}, {beam.Grid{Zones: []beam.Zone{zone("grid", 1000, 0, 500), zone("zone", 0, 1000, 0)}}, "grid 0\nzone grid 1000 0 500\nzone zone 0 1000 0\n"}, {beam.Grid{Blur: 7, Stations: []beam.Station{station("move", "stow", 0, 1000), station("Abcdefghij_lmnopqrstuvw9", "standby", 1000, 0)}}, "grid 7\nstation move stow 0 1000\nstation Abcdefghij_lmnopqrstuvw9 standby 1000 0\n"}, {star(move(3, 4, 20), move(0, 4, 1)), "grid 0\nstation f focus 0 0\nstation a standby 10 0\nstation b standby 0 10\nstation c stow 10 10\nstation d focus 20 20\nmove 3 4 20\nmove 0 4 1\n"},
	} {
		text, e := beam.Print(x.g)
		expect.Result(t, "Print", text, e, x.text, api.OK)
		wantGrid(t, x.text, x.g, 0, api.OK)
	}
}

// wrongTexts are lines that do not have a form.
func wrongTexts() []string {
	l := []string{
		"\n", " \n", "x\n", "x 1\n", "Grid 1\n", "grids 1\n", "stations a focus 1 2\n", "station\n", "station \n", "station a\n", "station a focus\n", "station a focus 1\n", "station a focus 1 2 3\n", "station a focus 1 2 \n", " station a focus 1 2\n", "station  a focus 1 2\n", "station a  focus 1 2\n", "station a focus  1 2\n", "station a focus 1  2\n", "station  focus 1 2\n", "station a  1 2\n", "station   1 2\n", "station a b focus 1 2\n", "station a focus\t1 2\n", "station a focus 1,2\n", "station a focus x 2\n", "station 1 2\n", "station\ta focus 1 2\n", "STATION a focus 1 2\n",
		"move\n", "move 0\n", "move 0 1\n", "move 0 1 \n", "move 0 1 2 3\n", "move 0 1 2 \n", "move  0 1 2\n", "move 0  1 2\n", "move a 0 1 2\n", "move a 1 2\n", "moves 0 1 2\n", "Move 0 1 2\n", "move 0 1 2\t\n",
		"zone\n", "zone z\n", "zone z 1\n", "zone z 1 2\n", "zone z 1 2 3 4\n", "zone z 1 2 3 \n", "zone  z 1 2 3\n", "zone  1 2 3\n", "zone z y 1 2 3\n", "zone z 1 2 x\n", "zones z 1 2 3\n", "zone 1 2 3\n",
		"station a focus 1 2", "move 0 1 2", "zone z 1 2 3", "x", " ", "station", "zone z 1 2 3\r", "\xff", "\xff\n", "station a focus 1 2\r\n", "move 0 1 2\r\n", "zone z 1 2 3\x00\n",
	}
	for _, word := range []string{"-1", "-0", "00", "01", "000", "+1", "1.0", "1e2", "0x1", "1_0", "1000000000", "0000000000", "9223372036854775808", "\u0661", "\xff", "--1", "-", "-999999999", "1x"} {
		l = append(l, "station a focus "+word+" 2\n", "station a focus 1 "+word+"\n", "move "+word+" 1 2\n", "move 0 "+word+" 2\n", "move 0 1 "+word+"\n", "zone z "+word+" 2 3\n", "zone z 1 "+word+" 3\n", "zone z 1 2 "+word+"\n")
	}
	return l
}

func TestParseOfWrongLines(t *testing.T) {
	for _, line := range wrongTexts() {
		wantGrid(t, line, beam.Grid{}, 0, api.ErrSyntax)
		wantGrid(t, "grid 5\n"+line, beam.Grid{}, 1, api.ErrSyntax)
		wantGrid(t, "grid 101\nstation 7 x 1 2\n"+line, beam.Grid{}, 2, api.ErrSyntax)
		wantGrid(t, textOfG+line, beam.Grid{}, 11, api.ErrSyntax)
		if strings.HasSuffix(line, "\n") {
			wantGrid(t, "grid 5\n"+line+"x\n", beam.Grid{}, 1, api.ErrSyntax)
		}
	}
}

func TestParseOfTheFirstLine(t *testing.T) {
	for _, line := range []string{
		"", "\n", "grid", "grid\n", "grid \n", "grid 5", "grid 5 \n", "grid  5\n", " grid 5\n", "grid 5 5\n", "grid a\n", "grid a 5\n", "grid -1\n", "grid -0\n", "grid 05\n", "grid 00\n", "grid +5\n", "grid 1234567890\n", "grid 0000000000\n", "grid 5\r\n", "grid\t5\n", "grid \u0661\n", "Grid 5\n", "grid5\n", "5\n", "station a focus 1 2\n", "move 0 1 2\n", "zone z 1 2 3\n", "station f focus 500 500\ngrid 5\n",
	} {
		wantGrid(t, line, beam.Grid{}, 0, api.ErrSyntax)
	}
	for _, line := range []string{"grid 5\n", "grid 0\n", "grid 101\n"} {
		wantGrid(t, "grid 5\n"+line, beam.Grid{}, 1, api.ErrSyntax)
		wantGrid(t, textOfG+line, beam.Grid{}, 11, api.ErrSyntax)
	}
}

// TestParseOfLinesInAnotherOrder checks that stations come before moves, and moves before zones.
func TestParseOfLinesInAnotherOrder(t *testing.T) {
	station, move, zone := "station a focus 1 2\n", "move 0 1 2\n", "zone z 1 2 3\n"
	for _, x := range []struct {
		s     string
		index int
		e     api.Errno
	}{
		{move + station, 2, api.ErrSyntax}, {zone + station, 2, api.ErrSyntax}, {zone + move, 2, api.ErrSyntax}, {station + move + station, 3, api.ErrSyntax}, {station + zone + station, 3, api.ErrSyntax}, {station + zone + move, 3, api.ErrSyntax}, {station + move + zone + move, 4, api.ErrSyntax}, {move + zone + zone + station, 4, api.ErrSyntax}, {zone + move + station, 2, api.ErrSyntax},
		{station + move + zone, 4, api.ErrUnknown}, {move + zone, 3, api.ErrUnknown}, {move, 2, api.ErrUnknown}, {station + station + move, 4, api.ErrTwice}, {zone + zone, 3, api.ErrTwice},
	} {
		wantGrid(t, "grid 5\n"+x.s, beam.Grid{}, x.index, x.e)
	}
	wantGrid(t, "grid 5\n"+station+zone, beam.Grid{Blur: 5, Stations: []beam.Station{{Name: "a", Kind: "focus", Place: at(1, 2)}}, Zones: []beam.Zone{{Name: "z", Centre: at(1, 2), Radius: 3}}}, 0, api.OK)
}

// TestParseOfWrongGrids checks that each error of a grid that has a text is found behind its last line.
func TestParseOfWrongGrids(t *testing.T) {
	for _, x := range []struct {
		s     string
		lines int
		e     api.Errno
	}{
		{"grid 101\n", 1, api.ErrRange}, {"grid 999999999\n", 1, api.ErrRange}, {"grid 5\nstation a park 1 2\n", 2, api.ErrKind}, {"grid 5\nstation 7 focus 1 2\n", 2, api.ErrName}, {"grid 5\nstation \xff \xff 1 2\n", 2, api.ErrName}, {"grid 5\nstation a\tb focus 1 2\n", 2, api.ErrName}, {"grid 5\nstation a focus\r 1 2\n", 2, api.ErrKind}, {"grid 5\nstation 1 2 3 4\n", 2, api.ErrName}, {"grid 5\nstation a 2 3 4\n", 2, api.ErrKind}, {"grid 5\nstation a focus 1001 2\n", 2, api.ErrRange}, {"grid 5\nstation a focus 1 999999999\n", 2, api.ErrRange}, {"grid 5\nstation a focus 1 2\nstation a stow 1 2\n", 3, api.ErrTwice},
		{textOfG + "zone z 1 2 501\n", 12, api.ErrRange}, {textOfG + "zone - 1 2 3\n", 12, api.ErrName}, {textOfG + "zone 4 1 2 3\n", 12, api.ErrName}, {textOfG + "zone bird 1 2 3\n", 12, api.ErrTwice}, {"grid 0\nstation a stow 0 0\nstation b stow 0 0\nmove 0 1 0\n", 4, api.ErrRange}, {"grid 0\nstation a stow 0 0\nstation b stow 0 0\nmove 1 0 1\n", 4, api.ErrOrder}, {"grid 0\nstation a stow 0 0\nstation b stow 0 0\nmove 0 2 1\n", 4, api.ErrUnknown}, {"grid 0\nstation a stow 0 0\nstation b stow 0 0\nmove 0 1 1\nmove 0 1 2\n", 5, api.ErrTwice},
		{"grid 5\n" + strings.Repeat("station a focus 1 2\n", 17), 18, api.ErrMany}, {"grid 5\n" + strings.Repeat("move 0 1 2\n", 41), 42, api.ErrMany}, {"grid 5\n" + strings.Repeat("zone a 1 2 3\n", 9), 10, api.ErrMany}, {"grid 101\n" + strings.Repeat("station a focus 1 2\n", 17), 18, api.ErrRange},
	} {
		wantGrid(t, x.s, beam.Grid{}, x.lines, x.e)
		wantGrid(t, x.s+"\n", beam.Grid{}, x.lines, api.ErrSyntax)
	}
}

func TestParseUpToTheLimit(t *testing.T) {
	long := "grid 5\nstation " + strings.Repeat("x", 4096-len("grid 5\nstation  focus 1 2\n")) + " focus 1 2\n"
	if len(long) != 4096 {
		t.Fatalf("the long text has %d bytes", len(long))
	}
	wantGrid(t, long, beam.Grid{}, 2, api.ErrName)
	for _, s := range []string{long + "\n", long + "x", strings.Repeat("x", 4097), strings.Repeat("\n", 4097), "x\n" + strings.Repeat("x", 1000000), textOfG + strings.Repeat("zone a 1 2 3\n", 400)} {
		wantGrid(t, s, beam.Grid{}, 0, api.ErrLong)
	}
	wantGrid(t, strings.Repeat("x", 4096), beam.Grid{}, 0, api.ErrSyntax)
	wantGrid(t, "grid 5\n"+strings.Repeat("x", 4089), beam.Grid{}, 1, api.ErrSyntax)
}

// TestTheLongestText checks that the text of each grid can be parsed.
func TestTheLongestText(t *testing.T) {
	text, e := beam.Print(greatest())
	if lines := strings.Count(text, "\n"); lines != 65 || len(text) > api.MaxText || e != api.OK {
		t.Errorf("Print: %d lines and %d bytes, error %d", lines, len(text), e)
	}
	wantGrid(t, text, greatest(), 0, api.OK)
}
