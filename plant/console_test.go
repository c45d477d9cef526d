package plant_test

import (
	"fmt"
	"math/rand"
	"strings"
	"testing"

	"spillage/api"
	"spillage/expect"
	"spillage/plant"
)

// P10.4

// TestConsole follows the chapter's examples.
func TestConsole(t *testing.T) {
	s := plant.New()
	for _, x := range []struct {
		line, answer string
		e            api.Errno
	}{
		{"state", "empty ready 0", api.OK}, {"rate", "0", api.OK}, {"aimed", "none", api.OK}, {"books", "0 0 0", api.OK}, {"offers", "none", api.OK}, {"undo", "", api.ErrEmpty}, {"sector n 0", "done 1", api.OK}, {"count n", "0 0", api.OK}, {"mirror a n 0 10", "done 2", api.OK}, {"mirror b n 0 20", "done 3", api.OK}, {"soil b 1 500", "done 4", api.OK}, {"dirt b", "500", api.OK}, {"dirt a", "0", api.OK}, {"aim a 1", "", api.ErrCold}, {"fill 2", "done 5", api.OK}, {"state", "filled ready 0", api.OK}, {"sun 2 800", "done 6", api.OK}, {"state", "filled ready 800", api.OK}, {"aim a 3", "done 7", api.OK}, {"count n", "2 1", api.OK}, {"aimed", "a", api.OK}, {"aim b 4", "done 8", api.OK}, {"rate", "16000000", api.OK}, {"aimed", "a b", api.OK}, {"count n", "2 2", api.OK}, {"books", "8000000 8000000 0", api.OK},
		{"defect a 5", "", api.ErrHeld}, {"drain 5", "", api.ErrHeld}, {"sun 5 1001", "", api.ErrRange}, {"sun 3 1", "", api.ErrState}, {"trip 6", "done 9", api.OK}, {"state", "filled tripped 800", api.OK}, {"aim a 7", "", api.ErrLocked}, {"drain 7", "done 10", api.OK}, {"state", "empty tripped 800", api.OK}, {"undo", "done 11", api.OK}, {"state", "filled tripped 800", api.OK}, {"reset 9", "done 12", api.OK}, {"offer o 9 10 20 50 100", "done 13", api.OK}, {"offer p 9 10 20 3 7", "done 14", api.OK}, {"offers", "o 50 p 3", api.OK}, {"deliver o 9 5", "", api.ErrSpan}, {"deliver o 10 41", "", api.ErrShort}, {"deliver o 10 30", "done 15", api.OK}, {"offers", "o 20 p 3", api.OK}, {"undo", "", api.ErrRule}, {"bill o 19", "", api.ErrOpen}, {"bill o 20", "done 16", api.OK}, {"offers", "p 3", api.OK}, {"books", "40000000 10000000 -1000", api.OK}, {"bill p 20", "done 17", api.OK}, {"offers", "none", api.OK}, {"books", "40000000 10000000 -1042", api.OK},
	} {
		wantAnswer(t, s, x.line, x.answer, x.e)
	}
	lines := chapter(9, "drain 7", "undo", "reset 9", "offer o 9 10 20 50 100", "offer p 9 10 20 3 7", "deliver o 10 30", "bill o 20", "bill p 20")
	want(t, "Events", s.Events(), api.OK, events(lines...), api.OK)
	expect.Result(t, "Log", s.Log(), api.OK, logOf(t, events(lines...)), api.OK)
}

// TestLinesThatAreWrong checks that a line with an error changes nothing.
func TestLinesThatAreWrong(t *testing.T) {
	s := plant.New()
	do(t, s, chapter(10)...)
	log, long := s.Log(), strings.Repeat("x", 4096)
	for _, x := range []struct {
		line string
		e    api.Errno
	}{
		{"", api.ErrSyntax}, {long, api.ErrKind}, {long + "x", api.ErrLong}, {"undo" + strings.Repeat(" ", 4092), api.ErrSyntax}, {"undo" + strings.Repeat(" ", 4093), api.ErrLong}, {"clean " + strings.Repeat("a", 4088) + " 20", api.ErrLong}, {"clean " + strings.Repeat("a", 4087) + " 20", api.ErrName},
		{" ", api.ErrKind}, {" undo", api.ErrKind}, {"\n", api.ErrKind}, {"undo\n", api.ErrKind}, {"Undo", api.ErrKind}, {"1", api.ErrKind}, {"11 undo", api.ErrKind}, {"show", api.ErrKind}, {"show a b c", api.ErrKind}, {"offers\t", api.ErrKind}, {"state\x00", api.ErrKind}, {"stat", api.ErrKind}, {"dirt\ta", api.ErrKind},
		{"undo ", api.ErrSyntax}, {"undo x", api.ErrSyntax}, {"undo 11", api.ErrSyntax}, {"fill", api.ErrSyntax}, {"fill ", api.ErrSyntax}, {"fill  9", api.ErrSyntax}, {"fill 9 ", api.ErrSyntax}, {"fill 9 9", api.ErrSyntax}, {"fill x", api.ErrSyntax}, {"fill 09", api.ErrSyntax}, {"fill -9", api.ErrSyntax}, {"fill -0", api.ErrSyntax}, {"fill +9", api.ErrSyntax}, {"fill 1000000000", api.ErrSyntax}, {"fill 9\n", api.ErrSyntax}, {"fill \u0669", api.ErrSyntax}, {"sun 9", api.ErrSyntax}, {"sun 9 ", api.ErrSyntax}, {"sun 9 1 1", api.ErrSyntax}, {"sun x 1", api.ErrSyntax}, {"sun 9 x", api.ErrSyntax},
		{"clean", api.ErrSyntax}, {"clean ", api.ErrSyntax}, {"clean a", api.ErrSyntax}, {"clean  9", api.ErrSyntax}, {"clean  a 9", api.ErrSyntax}, {"clean a  9", api.ErrSyntax}, {"clean a 9 9", api.ErrSyntax}, {"clean a b 9", api.ErrSyntax}, {"clean 9", api.ErrSyntax}, {"clean 9 a", api.ErrSyntax}, {"clean a 9 ", api.ErrSyntax}, {"mirror c n 9", api.ErrSyntax}, {"mirror c 9 10", api.ErrSyntax}, {"mirror c  9 10", api.ErrSyntax}, {"offer o 9 10 20 50", api.ErrSyntax}, {"offer o 9 10 20 50 100 1", api.ErrSyntax},
		{"clean 1 9", api.ErrName}, {"clean a-b 9", api.ErrName}, {"clean a\n 9", api.ErrName}, {"clean \xff 9", api.ErrName}, {"mirror 1 n 9 10", api.ErrName}, {"mirror c 1 9 10", api.ErrName}, {"mirror 1 x 0 0", api.ErrName}, {"clean c 9", api.ErrUnknown}, {"clean c 8", api.ErrState}, {"mirror c n 9 0", api.ErrRange}, {"sector n 9", api.ErrTwice}, {"offer o 9 8 20 50 100", api.ErrSpan}, {"soil a 9 1001", api.ErrRange}, {"fill 9", api.ErrTwice},
		{"state ", api.ErrSyntax}, {"state x", api.ErrSyntax}, {"rate ", api.ErrSyntax}, {"rate 1", api.ErrSyntax}, {"aimed a", api.ErrSyntax}, {"books  ", api.ErrSyntax}, {"offers o", api.ErrSyntax}, {"dirt", api.ErrSyntax}, {"dirt ", api.ErrSyntax}, {"dirt  a", api.ErrSyntax}, {"dirt a ", api.ErrSyntax}, {"dirt a b", api.ErrSyntax}, {"dirt x y", api.ErrSyntax}, {"dirt x", api.ErrUnknown}, {"dirt n", api.ErrUnknown}, {"dirt 1", api.ErrUnknown}, {"dirt a\n", api.ErrUnknown}, {"count", api.ErrSyntax}, {"count ", api.ErrSyntax}, {"count n n", api.ErrSyntax}, {"count n ", api.ErrSyntax}, {"count a", api.ErrUnknown}, {"count 1", api.ErrUnknown}, {"count N", api.ErrUnknown},
	} {
		wantAnswer(t, s, x.line, "", x.e)
	}
	expect.Result(t, "the log after lines that are wrong", s.Log(), api.OK, log, api.OK)
	wantAnswer(t, s, "books", "40000000 40000000 0", api.OK)
	wantAnswer(t, s, "clean a 9", "done 11", api.OK)
}

// TestFormsOfLines checks each kind of event with each number of words.
func TestFormsOfLines(t *testing.T) {
	for _, kind := range kindNames() {
		names, values := formOf(kind)
		for i := range 4 {
			for j := range 8 {
				line := kind + strings.Repeat(" a", i) + strings.Repeat(" 0", j)
				_, e := plant.New().Do(line)
				if wrong := i != names || j != values; wrong && i+j != names+values && e != api.ErrSyntax || !wrong && e == api.ErrSyntax {
					t.Errorf("Do %q: error %d", line, e)
				}
			}
		}
	}
}

func TestConsoleOfManyEvents(t *testing.T) {
	s := plant.New()
	do(t, s, many(999, "sun %d 0")...)
	wantAnswer(t, s, "sun 999 7", "done 1000", api.OK)
	log := s.Log()
	for _, x := range []struct {
		line, answer string
		e            api.Errno
	}{{"undo", "", api.ErrMany}, {"sun 5 0", "", api.ErrMany}, {"clean 1 5", "", api.ErrMany}, {"clean a", "", api.ErrSyntax}, {"undo ", "", api.ErrSyntax}, {"show", "", api.ErrKind}, {"state", "empty ready 7", api.OK}} {
		wantAnswer(t, s, x.line, x.answer, x.e)
	}
	expect.Result(t, "the log of many events", s.Log(), api.OK, log, api.OK)
	again, e := plant.Open(log)
	if e != api.OK || again == nil {
		t.Fatalf("Open of many events: error %d", e)
	}
	want(t, "Events", again.Events(), e, events(append(many(999, "sun %d 0"), "sun 999 7")...), api.OK)
	wantAnswer(t, again, "undo", "", api.ErrMany)
}

func TestOpen(t *testing.T) {
	log := logOf(t, events(chapter(8)...))
	for _, tail := range []string{"", "9", "9 trip 6", checked("9 trip 6")[:16], "#0000001", "9 trip 6#0000001"} {
		s, e := plant.Open(log + tail)
		expect.Err(t, "Open", e, api.OK)
		expect.Result(t, "the log of Open", s.Log(), e, log, api.OK)
		want(t, "the events of Open", s.Events(), e, events(chapter(8)...), api.OK)
		wantAnswer(t, s, "books", "8000000 8000000 0", api.OK)
		wantAnswer(t, s, "undo", "done 9", api.OK)
		wantAnswer(t, s, "aimed", "a", api.OK)
		wantAnswer(t, s, "trip 6", "done 10", api.OK)
		expect.Result(t, "the log of what is opened", s.Log(), e, logOf(t, events(chapter(8, "undo", "trip 6")...)), api.OK)
	}
	for _, x := range []struct {
		log string
		e   api.Errno
	}{
		{log + "\n", api.ErrSyntax}, {log + "\n9", api.ErrSyntax}, {log + "9 trip 6#0000000\n", api.ErrCheck}, {log + checked("9 trips 6"), api.ErrSyntax}, {log + checked("8 trip 6"), api.ErrOrder}, {log + checked("9 aim b 5"), api.ErrTwice}, {log + checked("9 trip 3"), api.ErrState}, {log + checked("9 aim b 5") + "9", api.ErrTwice}, {log + checked("9 aim b 5") + "9\n", api.ErrSyntax}, {checked("1 undo"), api.ErrEmpty}, {strings.Repeat("x", 1000001), api.ErrLong},
	} {
		s, e := plant.Open(x.log)
		expect.Err(t, fmt.Sprintf("Open %.60q", x.log), e, x.e)
		if s != nil {
			t.Errorf("Open %.60q: a session beside the error %d", x.log, e)
		}
	}
	for _, log := range []string{"", "9"} {
		s, e := plant.Open(log)
		expect.Result(t, "the log of a new plant", s.Log(), e, "", api.OK)
		wantAnswer(t, s, "sector n 0", "done 1", api.OK)
	}
}

func TestSessionsWithoutEvents(t *testing.T) {
	for _, s := range []*plant.Session{plant.New(), {}} {
		want(t, "Events", s.Events(), api.OK, []api.Event{}, api.OK)
		expect.Result(t, "Log", s.Log(), api.OK, "", api.OK)
		wantAnswer(t, s, "state", "empty ready 0", api.OK)
		wantAnswer(t, s, "trip 0", "done 1", api.OK)
	}
	var none *plant.Session
	for _, line := range []string{"", "undo", "sector n 0", "state", "show", strings.Repeat("x", 5000)} {
		wantAnswer(t, none, line, "", api.ErrState)
	}
	want(t, "Events of no session", none.Events(), api.OK, []api.Event{}, api.OK)
	expect.Result(t, "Log of no session", none.Log(), api.OK, "", api.OK)
}

// TestSessionsAreApart checks that sessions, copies of them, and their events share nothing.
func TestSessionsAreApart(t *testing.T) {
	s := plant.New()
	base := chapter(8, "sector v 4", "sector w 4")
	do(t, s, base...)
	other := plant.New()
	wantAnswer(t, other, "state", "empty ready 0", api.OK)
	first := *s
	do(t, s, "trip 6", "undo", "park a 9")
	second := *s
	do(t, s, "undo", "park b 9", "sector x 9")
	do(t, &first, "sun 7 1", "sector y 7")
	do(t, &second, "undo", "undo", "dim n 9")
	for _, x := range []struct {
		s                  *plant.Session
		lines              []string
		aimed, has, hasNot string
	}{{s, []string{"trip 6", "undo", "park a 9", "undo", "park b 9", "sector x 9"}, "a", "x", "y"}, {&first, []string{"sun 7 1", "sector y 7"}, "a b", "y", "x"}, {&second, []string{"trip 6", "undo", "park a 9", "undo", "undo", "dim n 9"}, "none", "v", "w"}} {
		want(t, "Events", x.s.Events(), api.OK, events(joined(base, x.lines)...), api.OK)
		wantAnswer(t, x.s, "aimed", x.aimed, api.OK)
		wantAnswer(t, x.s, "count "+x.has, "0 0", api.OK)
		wantAnswer(t, x.s, "count "+x.hasNot, "", api.ErrUnknown)
	}
}

// TestConsoleByDefinition compares what lines do, and the answers, with the definitions.
func TestConsoleByDefinition(t *testing.T) {
	rnd := rand.New(rand.NewSource(3))
	for range 60 {
		s, l := plant.New(), []api.Event{}
		for range 80 {
			x := randomNext(rnd, l)
			line := strings.TrimSuffix(strings.SplitN(recordOf(x), " ", 2)[1], "\n")
			line = line[:strings.LastIndex(line, "#")]
			wanted, answer := refusal(l, x), ""
			if wanted == api.OK {
				l = append(l, x)
				answer = fmt.Sprintf("done %d", len(l))
			}
			wantAnswer(t, s, line, answer, wanted)
		}
		want(t, "Events", s.Events(), api.OK, l, api.OK)
		wantAnswers(t, s, registerOf(counting(l)), rateOf(counting(l)))
	}
}

// wantAnswers reports answers that do not fit a register and its rate.
func wantAnswers(t *testing.T, s *plant.Session, r plant.Register, rate int) {
	t.Helper()
	state := []string{"empty", "ready"}
	if r.Filled {
		state[0] = "filled"
	}
	if r.Tripped {
		state[1] = "tripped"
	}
	wantAnswer(t, s, "state", fmt.Sprint(state[0], " ", state[1], " ", r.Level), api.OK)
	wantAnswer(t, s, "rate", fmt.Sprint(rate), api.OK)
	wantAnswer(t, s, "books", fmt.Sprint(r.Light, " ", r.Heat, " ", r.Money), api.OK)
	var aimed, offers []string
	for _, m := range r.Mirrors {
		wantAnswer(t, s, "dirt "+m.Name, fmt.Sprint(m.Soil), api.OK)
		if m.Aimed {
			aimed = append(aimed, m.Name)
		}
	}
	for _, o := range r.Offers {
		if !o.Billed {
			offers = append(offers, o.Name, fmt.Sprint(o.Energy-o.Delivered))
		}
	}
	wantAnswer(t, s, "aimed", orNone(aimed), api.OK)
	wantAnswer(t, s, "offers", orNone(offers), api.OK)
}

func orNone(words []string) string {
	if len(words) == 0 {
		return "none"
	}
	return strings.Join(words, " ")
}
