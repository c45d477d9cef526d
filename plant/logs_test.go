package plant_test

import (
	"fmt"
	"strings"
	"testing"

	"spillage/api"
	"spillage/expect"
	"spillage/plant"
)

// P10.3

// TestChecksums has the checksums that the chapter tells.
func TestChecksums(t *testing.T) {
	for _, x := range [][2]string{{"", "#0000001\n"}, {"1", "1#0000402\n"}, {"11", "11#0141955\n"}} {
		if s := checked(x[0]); s != x[1] {
			t.Errorf("the record of %q: %q, want %q", x[0], s, x[1])
		}
		// a wrong checksum would be found before that these are no bodies
		wantRecovered(t, x[1], 0, 0, api.ErrSyntax)
	}
}

// wantRecovered reports what is recovered of a string if it is not the first n events of the chapter's examples, a length and an error.
func wantRecovered(t *testing.T, log string, n, length int, wanted api.Errno) {
	t.Helper()
	l, i, e := plant.Recover(log)
	if show(l) != show(events(chapter(n)...)) || i != length || e != wanted {
		t.Errorf("Recover %.90q: %v, length %d, error %d, want %d events, length %d, error %d", log, l, i, e, n, length, wanted)
	}
}

func TestLogsOfEvents(t *testing.T) {
	log := ""
	for i, e := range events(chapter(13)...) {
		next, bad := plant.Append(log, e)
		expect.Result(t, "Append", next, bad, log+recordOf(e), api.OK)
		log = next
		wantRecovered(t, log, i+1, len(log), api.OK)
	}
	wantRecovered(t, "", 0, 0, api.OK)
}

// TestAppendOfAllKinds checks that a log may have events that are not accepted, with the least and the greatest numbers and names.
func TestAppendOfAllKinds(t *testing.T) {
	long := strings.Repeat("Z", 24)
	for _, line := range []string{"sector n 0", "mirror " + long + " " + long + " 999999999 999999999", "mirror a n 0 0", "soil b 1 999999999", "clean b 1", "defect b 1", "repair b 1", "aim b 1", "park b 1", "dim n 1", "sun 0 0", "fill 999999999", "drain 1", "trip 1", "reset 1", "offer " + long + " 999999999 999999999 999999999 999999999 999999999", "deliver o 1 0", "bill o_1 10", "undo"} {
		s, e := plant.Append("", event(1, line))
		expect.Result(t, "Append", s, e, checked("1 "+line), api.OK)
		l, n, e := plant.Recover(s)
		expect.Result(t, "the length of Recover", n, e, len(s), api.OK)
		want(t, "Recover", l, e, events(line), api.OK)
	}
}

func TestRecoverOfTornLogs(t *testing.T) {
	log, events, begin := logOf(t, events(chapter(5)...)), 0, 0
	for n := range len(log) {
		if n > 0 && log[n-1] == '\n' {
			events, begin = events+1, n
		}
		wanted := api.ErrTorn
		if n == begin {
			wanted = api.OK
		}
		wantRecovered(t, log[:n], events, begin, wanted)
	}
}

// TestRecoverOfWrongLines checks each error of a line behind right ones, and that the line decides, whatever follows.
func TestRecoverOfWrongLines(t *testing.T) {
	log := logOf(t, events(chapter(4)...))
	for _, x := range []struct {
		line string
		e    api.Errno
	}{
		{"\n", api.ErrSyntax}, {"#\n", api.ErrSyntax}, {"5 fill 2\n", api.ErrSyntax}, {"5 fill 2#123456\n", api.ErrSyntax}, {"#123456\n", api.ErrSyntax}, {"1234567\n", api.ErrSyntax}, {"51234567\n", api.ErrSyntax}, {"5 fill 2#12345678\n", api.ErrSyntax}, {"5 fill 2#123456x\n", api.ErrSyntax}, {"5 fill 2#x234567\n", api.ErrSyntax}, {"5 fill 2#123 567\n", api.ErrSyntax}, {"5 fill 2#-234567\n", api.ErrSyntax}, {"5 fill 2 1234567\n", api.ErrSyntax}, {"5 fill 2#12345\u0661\n", api.ErrSyntax}, {"5 fill 2#\xff234567\n", api.ErrSyntax}, {strings.TrimSuffix(checked("5 fill 2"), "\n") + " \n", api.ErrSyntax}, {strings.TrimSuffix(checked("5 fill 2"), "\n") + "\r\n", api.ErrSyntax},
		{"5 fill 2#0000000\n", api.ErrCheck}, {"5 fill 2#9999999\n", api.ErrCheck}, {"#0000000\n", api.ErrCheck}, {" " + checked("5 fill 2"), api.ErrCheck}, {strings.Replace(checked("5 fill 2"), "2", "3", 1), api.ErrCheck}, {checked("5 fill 2#")[:9] + checked("5 fill 2")[8:], api.ErrCheck}, {"6 fill#0000000\n", api.ErrCheck},
		{checked(""), api.ErrSyntax}, {checked("5"), api.ErrSyntax}, {checked("5 "), api.ErrSyntax}, {checked("fill 2"), api.ErrSyntax}, {checked("5 fill"), api.ErrSyntax}, {checked("5 fill "), api.ErrSyntax}, {checked("5 fill 2 "), api.ErrSyntax}, {checked("5 fill 2 3"), api.ErrSyntax}, {checked(" 5 fill 2"), api.ErrSyntax}, {checked("5  fill 2"), api.ErrSyntax}, {checked("5 fill  2"), api.ErrSyntax}, {checked("5 Fill 2"), api.ErrSyntax}, {checked("5 note 2"), api.ErrSyntax}, {checked("5 fill x"), api.ErrSyntax}, {checked("5 fill 02"), api.ErrSyntax}, {checked("5 fill 00"), api.ErrSyntax}, {checked("5 fill +2"), api.ErrSyntax}, {checked("5 fill -2"), api.ErrSyntax}, {checked("5 fill -0"), api.ErrSyntax}, {checked("5 fill 1000000000"), api.ErrSyntax}, {checked("5 fill 0999999999"), api.ErrSyntax}, {checked("5 fill 2\t"), api.ErrSyntax}, {checked("5 fill 2#"), api.ErrSyntax}, {checked("5\tfill 2"), api.ErrSyntax}, {checked("05 fill 2"), api.ErrSyntax}, {checked("+5 fill 2"), api.ErrSyntax}, {checked("-5 fill 2"), api.ErrSyntax}, {checked("0 fill 2"), api.ErrSyntax}, {checked("1001 fill 2"), api.ErrSyntax}, {checked("1000000005 fill 2"), api.ErrSyntax}, {checked("x fill 2"), api.ErrSyntax},
		{checked("5 clean 1 2"), api.ErrSyntax}, {checked("5 clean a"), api.ErrSyntax}, {checked("5 clean  2"), api.ErrSyntax}, {checked("5 clean a\x00 2"), api.ErrSyntax}, {checked("5 clean " + strings.Repeat("a", 25) + " 2"), api.ErrSyntax}, {checked("5 clean 2 a"), api.ErrSyntax}, {checked("5 clean a b 2"), api.ErrSyntax}, {checked("5 mirror a 2 10"), api.ErrSyntax}, {checked("5 undo 2"), api.ErrSyntax}, {checked("5 undo "), api.ErrSyntax}, {checked("5 undo a"), api.ErrSyntax},
		{checked("6 fill 2"), api.ErrOrder}, {checked("4 fill 2"), api.ErrOrder}, {checked("1 fill 2"), api.ErrOrder}, {checked("1000 fill 2"), api.ErrOrder}, {"5 fill 2#123456", api.ErrTorn}, {"x", api.ErrTorn}, {strings.TrimSuffix(checked("5 fill 2"), "\n"), api.ErrTorn},
	} {
		wantRecovered(t, log+x.line, 4, len(log), x.e)
		if x.e != api.ErrTorn {
			wantRecovered(t, log+x.line+"x", 4, len(log), x.e)
			wantRecovered(t, log+x.line+checked("6 trip 2"), 4, len(log), x.e)
			wantRecovered(t, log+x.line+checked("5 fill 2"), 4, len(log), x.e)
		}
	}
	wantRecovered(t, log+checked("5 fill 2"), 5, len(log)+17, api.OK)
}

func TestRecoverOfLongLogs(t *testing.T) {
	for _, s := range []string{strings.Repeat("x", 1000001), strings.Repeat("\n", 1000001), checked("1 fill 2") + strings.Repeat("\n", 1000001), strings.Repeat(checked("1 fill 2"), 60000)} {
		wantRecovered(t, s, 0, 0, api.ErrLong)
	}
	wantRecovered(t, strings.Repeat("x", 1000000), 0, 0, api.ErrTorn)
	wantRecovered(t, strings.Repeat("\n", 1000000), 0, 0, api.ErrSyntax)
	first := checked("1 sector n 0")
	wantRecovered(t, first+strings.Repeat("x", 1000000-len(first)), 1, len(first), api.ErrTorn)
	wantRecovered(t, first+strings.Repeat("x", 1000001-len(first)), 0, 0, api.ErrLong)
}

// fullLog returns a log with as many records as it may have.
func fullLog() string {
	var log strings.Builder
	for i := range 1000 {
		log.WriteString(checked(fmt.Sprintf("%d sun %d 0", i+1, i)))
	}
	return log.String()
}

func TestLogsOfManyRecords(t *testing.T) {
	log := fullLog()
	l, n, e := plant.Recover(log)
	expect.Result(t, "the length of a full log", n, e, len(log), api.OK)
	want(t, "a full log", l, e, idle(1000), api.OK)
	for _, x := range []struct {
		line string
		e    api.Errno
	}{{checked("1001 undo"), api.ErrSyntax}, {checked("1000 undo"), api.ErrOrder}, {checked("1 undo"), api.ErrOrder}, {"x", api.ErrTorn}} {
		l, n, e = plant.Recover(log + x.line)
		expect.Result(t, "the length of a full log and more", n, e, len(log), x.e)
		want(t, "a full log and more", l, e, idle(1000), x.e)
	}
	for _, x := range []struct {
		number int
		e      api.Errno
	}{{1001, api.ErrRange}, {1000, api.ErrOrder}, {1, api.ErrOrder}} {
		s, e := plant.Append(log, event(x.number, "undo"))
		expect.Result(t, "Append to a full log", s, e, "", x.e)
	}
}

// TestAppendOfWrongArguments checks that the log decides before the event, and the event's form before its Number.
func TestAppendOfWrongArguments(t *testing.T) {
	log := logOf(t, events(chapter(4)...))
	text := event(5, "undo")
	text.Text = "x"
	for _, x := range []struct {
		log string
		e   api.Event
		x   api.Errno
	}{
		{log, event(4, "fill 2"), api.ErrOrder}, {log, event(6, "fill 2"), api.ErrOrder}, {"", event(2, "fill 2"), api.ErrOrder}, {log, event(0, "fill 2"), api.ErrRange}, {log, event(1001, "fill 2"), api.ErrRange}, {log, event(4, "fills 2"), api.ErrKind}, {log, event(4, "fill"), api.ErrShape}, {log, api.Event{Number: 5, Kind: "clean", Names: []string{"a b"}, Values: []int{2}}, api.ErrName}, {log, event(5, "fill -2"), api.ErrRange}, {log, event(5, "fill 1000000000"), api.ErrRange}, {log, text, api.ErrForm},
		{log + "x", event(4, "fills 2"), api.ErrTorn}, {"9", event(1, "fill 2"), api.ErrTorn}, {"\n", event(1, "fill 2"), api.ErrSyntax}, {"1#0000403\n", api.Event{}, api.ErrCheck}, {checked("2 undo"), event(3, "undo"), api.ErrOrder}, {strings.Repeat("x", 1000001), api.Event{}, api.ErrLong},
	} {
		s, e := plant.Append(x.log, x.e)
		expect.Result(t, fmt.Sprintf("Append %.60q %v", x.log, x.e), s, e, "", x.x)
	}
}
