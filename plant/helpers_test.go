package plant_test

import (
	"fmt"
	"math/rand"
	"slices"
	"strconv"
	"strings"
	"testing"

	"spillage/api"
	"spillage/expect"
	"spillage/plant"
)

// event returns the event that a line of words tells: its Kind, its Names and its Values.
func event(number int, line string) api.Event {
	words := strings.Split(line, " ")
	e := api.Event{Number: number, Kind: words[0]}
	for _, word := range words[1:] {
		if n, err := strconv.Atoi(word); err == nil {
			e.Values = append(e.Values, n)
		} else {
			e.Names = append(e.Names, word)
		}
	}
	return e
}

// events returns the events of lines, with the Numbers from 1 on.
func events(lines ...string) []api.Event {
	var l []api.Event
	for i, line := range lines {
		l = append(l, event(i+1, line))
	}
	return l
}

// chapter returns the first n lines of the chapter's examples, and other lines, without room behind them.
func chapter(n int, lines ...string) []string {
	l := []string{"sector n 0", "mirror a n 0 10", "mirror b n 0 20", "soil b 1 500", "fill 2", "sun 2 800", "aim a 3", "aim b 4", "trip 6", "reset 9", "offer o 9 10 20 50 100", "deliver o 10 30", "bill o 20"}
	return slices.Clip(append(l[:n], lines...))
}

// many returns n lines of a form with a number from 0 on.
func many(n int, form string) []string {
	var l []string
	for i := range n {
		l = append(l, fmt.Sprintf(form, i))
	}
	return l
}

// joined returns all lines of some lists.
func joined(lists ...[]string) []string { return slices.Concat(lists...) }

// idle returns n events that change nothing.
func idle(n int) []api.Event { return events(many(n, "sun %d 0")...) }

// show returns what a result is, where a list without elements is the same as none.
func show(x any) string { return fmt.Sprintf("%+v", x) }

// want reports a result or an error that is not the expected one.
func want(t *testing.T, what string, got any, e api.Errno, wanted any, wantedErr api.Errno) {
	t.Helper()
	expect.Result(t, what, show(got), e, show(wanted), wantedErr)
}

// replayed returns the register after some events, which are accepted.
func replayed(t *testing.T, l []api.Event) plant.Register {
	t.Helper()
	r, n, e := plant.Replay(l)
	if n != 0 || e != api.OK {
		t.Fatalf("Replay %v: number %d, error %d", l, n, e)
	}
	return r
}

// logOf returns the log of some events.
func logOf(t *testing.T, l []api.Event) string {
	t.Helper()
	log := ""
	for _, x := range l {
		next, e := plant.Append(log, x)
		if e != api.OK {
			t.Fatalf("Append %v: error %d", x, e)
		}
		log = next
	}
	return log
}

// do executes lines, which have no errors.
func do(t *testing.T, s *plant.Session, lines ...string) {
	t.Helper()
	for _, line := range lines {
		if _, e := s.Do(line); e != api.OK {
			t.Fatalf("Do %q: error %d", line, e)
		}
	}
}

// wantAnswer reports an answer that is not the expected one.
func wantAnswer(t *testing.T, s *plant.Session, line, answer string, wantedErr api.Errno) {
	t.Helper()
	got, e := s.Do(line)
	expect.Result(t, fmt.Sprintf("Do %.60q", line), got, e, answer, wantedErr)
}

// pick returns one of some values.
func pick[T any](r *rand.Rand, l ...T) T { return l[r.Intn(len(l))] }

func kindNames() []string {
	return []string{"sector", "mirror", "soil", "clean", "defect", "repair", "aim", "park", "dim", "sun", "fill", "drain", "trip", "reset", "offer", "deliver", "bill", "undo"}
}

// randomLine returns a line of a kind at a tick, about few things, so that many are accepted.
func randomLine(r *rand.Rand, kind string, tick int) string {
	mirror, sector, offer := pick(r, "a", "b", "c", "d"), pick(r, "n", "s"), pick(r, "o", "p", "q")
	switch kind {
	case "sector", "dim":
		return fmt.Sprint(kind, " ", sector, " ", tick)
	case "mirror":
		return fmt.Sprint(kind, " ", mirror, " ", sector, " ", tick, " ", pick(r, 1, 7, 100, 100*r.Intn(2)+r.Intn(2)))
	case "soil":
		return fmt.Sprint(kind, " ", mirror, " ", tick, " ", pick(r, 0, 1, 1000, 1001, r.Intn(1000)))
	case "clean", "defect", "repair", "aim", "park":
		return fmt.Sprint(kind, " ", mirror, " ", tick)
	case "sun":
		return fmt.Sprint(kind, " ", tick, " ", pick(r, 0, 1, 1000, 1001, r.Intn(1000)))
	case "offer":
		from := max(tick+r.Intn(6)-1, 0)
		return fmt.Sprint(kind, " ", offer, " ", tick, " ", min(from, 999999999), " ", min(from+r.Intn(30), 999999999), " ", pick(r, 1, 50, 1000, r.Intn(1002)), " ", r.Intn(1002))
	case "deliver":
		return fmt.Sprint(kind, " ", offer, " ", tick, " ", pick(r, 0, 1, 2, 10, r.Intn(300)))
	case "bill":
		return fmt.Sprint(kind, " ", offer, " ", tick)
	case "undo":
		return kind
	}
	return fmt.Sprint(kind, " ", tick)
}

// randomNext returns an event behind others that is often accepted: its tick is seldom before theirs.
func randomNext(r *rand.Rand, l []api.Event) api.Event {
	tick := 0
	if counted := counting(l); len(counted) > 0 {
		tick = tickOf(counted[len(counted)-1])
	}
	tick = min(max(tick+pick(r, 0, 0, 0, 1, 1, 2, 5, -1), 0), 999999999)
	if r.Intn(50) == 0 {
		tick = pick(r, 10000, 1000000, 100000000, 999999999)
	}
	kind := pick(r, "aim", "aim", "aim", "fill", "sun", "mirror", "offer", "deliver", "deliver", "undo")
	if r.Intn(2) == 0 {
		kind = pick(r, kindNames()...)
	}
	return event(len(l)+1, randomLine(r, kind, tick))
}

// randomPlant returns up to n events that are accepted, of which the first ones make it likely that others are.
func randomPlant(r *rand.Rand, n int) []api.Event {
	begin := pick(r, chapter(0), chapter(2), chapter(8), []string{"sector n 0", "sector s 0", "mirror a n 0 100", "mirror b s 0 50", "mirror c n 0 1", "sun 0 1000", "fill 0", "aim b 0", "aim c 0", "aim a 1", "offer o 2 2 30 40 9"})
	l := events(begin...)
	for range 4 * n {
		if len(l) >= n {
			break
		}
		x := randomNext(r, l)
		isFar := len(x.Values) > 0 && tickOf(x) > 100000
		if !isFar && plant.Accepts(l, x) == api.OK {
			l = append(l, x)
		}
	}
	return l
}
