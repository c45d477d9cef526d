package plant_test

import (
	"math/rand"
	"slices"
	"strings"
	"testing"

	"spillage/api"
	"spillage/expect"
	"spillage/plant"
)

// P10.5, and P11 of the whole document

// wantRightRegister checks what holds for each register.
func wantRightRegister(t *testing.T, l []api.Event, r plant.Register) {
	t.Helper()
	taken, money := 0, 0
	for _, m := range r.Mirrors {
		if m.Aimed && (!r.Filled || r.Tripped || m.Defect) {
			t.Fatalf("%v is aimed, after %v: %+v", m, l, r)
		}
	}
	for _, o := range r.Offers {
		taken += o.Delivered
		if o.Delivered < 0 || o.Delivered > o.Energy {
			t.Fatalf("%v got too much, after %v", o, l)
		}
		bill, e := plant.Bill(l, o.Name)
		expect.Err(t, "Bill", e, api.OK)
		if o.Billed {
			money += bill
		}
	}
	if r.Light != r.Heat+taken*plant.Turn || r.Heat < 0 || r.Money != money {
		t.Fatalf("the light %d is not the heat %d and %d, or the money %d not %d, after %v", r.Light, r.Heat, taken, r.Money, money, l)
	}
}

func TestRegistersAreRight(t *testing.T) {
	rnd := rand.New(rand.NewSource(4))
	counts := map[string]int{}
	for range 60 {
		l := randomPlant(rnd, 60)
		for i := range l {
			r := replayed(t, l[:i+1])
			wantRightRegister(t, l[:i+1], r)
			counts[l[i].Kind]++
			if l[i].Kind != "deliver" {
				continue
			}
			// a delivery stands between the begin and the end of its offer
			o, found := named(r.Offers, l[i].Names[0], offerName)
			if !found || o.Billed || r.Tick < o.Span.From || r.Tick >= o.Span.To {
				t.Fatalf("a delivery at %d, of %v", r.Tick, o)
			}
		}
	}
	for _, kind := range []string{"aim", "trip", "defect", "drain", "deliver", "bill", "undo", "dim"} {
		if counts[kind] < 10 {
			t.Errorf("only %d events of the kind %s", counts[kind], kind)
		}
	}
}

// TestStoriesHaveTheLightOfThePlant checks that each story is accepted, has its mirror alone as the plant has it, and that all of them together have the light.
func TestStoriesHaveTheLightOfThePlant(t *testing.T) {
	rnd := rand.New(rand.NewSource(5))
	lit := 0
	for range 300 {
		l := randomPlant(rnd, rnd.Intn(60))
		r := replayed(t, l)
		tick, light := r.Tick+rnd.Intn(100), 0
		for _, m := range r.Mirrors {
			story, e := plant.Story(l, m.Name)
			expect.Err(t, "Story", e, api.OK)
			own := replayed(t, story)
			if !slices.Equal(own.Mirrors, []plant.Mirror{m}) || !slices.Equal(own.Sectors, []string{m.Sector}) || len(own.Offers) > 0 || own.Level != r.Level || own.Filled != r.Filled || own.Tripped != r.Tripped {
				t.Fatalf("the story of %v ends with %+v, and the plant with %+v", m, own, r)
			}
			booked, e := plant.Booked(story, tick)
			expect.Err(t, "Booked of a story", e, api.OK)
			light += booked[0]
		}
		booked, e := plant.Booked(l, tick)
		expect.Err(t, "Booked", e, api.OK)
		if light != booked[0] {
			t.Fatalf("the stories have the light %d at %d, and the plant %d, after %v", light, tick, booked[0], l)
		}
		lit += min(light, 1)
	}
	if lit < 100 {
		t.Errorf("only %d plants had light", lit)
	}
}

func TestAnUndoLeavesTheRegisterBefore(t *testing.T) {
	rnd := rand.New(rand.NewSource(6))
	undone := map[string]int{}
	for range 600 {
		l := randomPlant(rnd, rnd.Intn(50))
		x := randomNext(rnd, l)
		more := append(l[:len(l):len(l)], x)
		if plant.Accepts(l, x) != api.OK || x.Kind == "undo" {
			continue
		}
		back := event(len(more)+1, "undo")
		if x.Kind == "deliver" || x.Kind == "bill" {
			expect.Err(t, "an undo of a "+x.Kind, plant.Accepts(more, back), api.ErrRule)
			continue
		}
		want(t, "Replay of an undo", replayed(t, append(more, back)), api.OK, replayed(t, l), api.OK)
		undone[x.Kind]++
	}
	if len(undone) < 12 {
		t.Errorf("only these kinds were undone: %v", undone)
	}
}

func TestNoChangedLogIsRecovered(t *testing.T) {
	log := []byte(logOf(t, events(chapter(13, "sun 30 5", "undo")...)))
	for i, b := range log {
		for changed := range 256 {
			if b == '\n' || changed == '\n' || changed == int(b) {
				continue
			}
			log[i] = byte(changed)
			l, n, e := plant.Recover(string(log))
			if e == api.OK || n > i || len(l) != strings.Count(string(log[:i]), "\n") {
				t.Fatalf("Recover with the byte %d of %q changed to %d: %d events, length %d, error %d", i, log, changed, len(l), n, e)
			}
		}
		log[i] = b
	}
}

// TestAfterACrash checks that a session that is opened with what was written of a log has each event of its whole records, and goes on like one without a crash.
func TestAfterACrash(t *testing.T) {
	rnd := rand.New(rand.NewSource(7))
	for range 10 {
		l := randomPlant(rnd, 30)
		log := logOf(t, l)
		for cut := range len(log) + 1 {
			s, e := plant.Open(log[:cut])
			whole := strings.Count(log[:cut], "\n")
			if e != api.OK || s == nil {
				t.Fatalf("Open %q: error %d", log[:cut], e)
			}
			want(t, "the events after a crash", s.Events(), e, l[:whole], api.OK)
			if cut%7 != 0 {
				continue
			}
			for _, x := range l[whole:] {
				words := strings.SplitN(strings.Split(recordOf(x), "#")[0], " ", 2)
				do(t, s, words[1])
			}
			expect.Result(t, "the log after a crash", s.Log(), e, log, api.OK)
			wantAnswers(t, s, replayed(t, l), rateOf(counting(l)))
		}
	}
}

// TestCutsOfTheJournal checks that the register of the events that count up to a tick is that of the journal when it ended there.
func TestCutsOfTheJournal(t *testing.T) {
	rnd := rand.New(rand.NewSource(8))
	cuts := 0
	for range 60 {
		l := slices.DeleteFunc(randomPlant(rnd, 60), func(e api.Event) bool { return e.Kind == "undo" })
		for i := range l {
			l[i].Number = i + 1
		}
		_, number, e := plant.Replay(l)
		if e != api.OK { // an event that was undone is in the way of this one
			l = l[:number-1]
		}
		for i := range l {
			if i+1 < len(l) && tickOf(l[i+1]) == tickOf(l[i]) {
				continue
			}
			cuts++
			r, e := plant.AsOf(l, tickOf(l[i]))
			want(t, "AsOf at a cut", r, e, replayed(t, l[:i+1]), api.OK)
		}
	}
	if cuts < 300 {
		t.Errorf("there were only %d cuts", cuts)
	}
}
