package plant_test

import (
	"fmt"
	"math/rand"
	"testing"

	"spillage/api"
	"spillage/expect"
	"spillage/plant"
)

// P10.2

func TestRate(t *testing.T) {
	for _, x := range []struct {
		lines []string
		rate  int
	}{
		{nil, 0}, {chapter(6), 0}, {chapter(7), 8000000}, {chapter(8), 16000000}, {chapter(9), 0}, {chapter(8, "park a 4"), 8000000}, {chapter(8, "clean b 4"), 24000000}, {chapter(8, "soil a 4 1000"), 8000000}, {chapter(8, "soil a 4 999"), 8008000}, {chapter(8, "sun 4 1"), 20000}, {chapter(8, "sun 4 0"), 0}, {chapter(8, "sun 4 1000"), 20000000}, {chapter(8, "dim n 4"), 0}, {chapter(8, "sector s 4", "dim s 4"), 16000000}, {chapter(8, "sun 4 1", "undo"), 16000000}, {chapter(7, "defect b 3"), 8000000},
		{joined([]string{"sector n 0", "fill 0", "sun 0 1000"}, many(32, "mirror m%d n 0 100"), many(32, "aim m%d 0")), 3200000000},
	} {
		n, e := plant.Rate(events(x.lines...))
		expect.Result(t, fmt.Sprintf("Rate %q", x.lines), n, e, x.rate, api.OK)
	}
}

func TestAimed(t *testing.T) {
	for _, x := range []struct {
		lines []string
		names []string
	}{
		{nil, nil}, {chapter(6), nil}, {chapter(7), []string{"a"}}, {chapter(8), []string{"a", "b"}}, {chapter(6, "aim b 3"), []string{"b"}}, {chapter(6, "aim b 3", "aim a 3"), []string{"a", "b"}}, {chapter(9), nil}, {chapter(8, "park a 5"), []string{"b"}}, {chapter(8, "sector s 5", "mirror c s 5 1", "aim c 5", "dim n 5"), []string{"c"}}, {chapter(8, "sector s 5", "mirror c s 5 1", "aim c 5", "dim s 5"), []string{"a", "b"}}, {chapter(8, "trip 5", "undo"), []string{"a", "b"}}, {chapter(8, "soil a 5 1000", "sun 5 0"), []string{"a", "b"}},
	} {
		l, e := plant.Aimed(events(x.lines...))
		expect.List(t, fmt.Sprintf("Aimed %q", x.lines), l, e, x.names, api.OK)
	}
}

func TestSector(t *testing.T) {
	two := chapter(8, "sector s 5", "mirror c s 5 1", "park a 5")
	for _, x := range []struct {
		lines  []string
		sector string
		count  [2]int
		e      api.Errno
	}{
		{chapter(1), "n", [2]int{0, 0}, api.OK}, {chapter(6), "n", [2]int{2, 0}, api.OK}, {chapter(7), "n", [2]int{2, 1}, api.OK}, {chapter(8), "n", [2]int{2, 2}, api.OK}, {chapter(9), "n", [2]int{2, 0}, api.OK}, {two, "n", [2]int{2, 1}, api.OK}, {two, "s", [2]int{1, 0}, api.OK}, {append(two, "aim c 6"), "s", [2]int{1, 1}, api.OK}, {append(two, "undo", "undo"), "s", [2]int{0, 0}, api.OK}, {append(two, "undo", "undo", "undo"), "s", [2]int{}, api.ErrUnknown},
		{chapter(8), "a", [2]int{}, api.ErrUnknown}, {chapter(13), "o", [2]int{}, api.ErrUnknown}, {chapter(8), "", [2]int{}, api.ErrUnknown}, {chapter(8), "N", [2]int{}, api.ErrUnknown}, {nil, "n", [2]int{}, api.ErrUnknown},
	} {
		count, e := plant.Sector(events(x.lines...), x.sector)
		expect.Result(t, fmt.Sprintf("Sector %q %q", x.lines, x.sector), count, e, x.count, x.e)
	}
}

func TestBooked(t *testing.T) {
	bright := []string{"sector n 0", "mirror m n 0 100", "fill 0", "sun 0 1000", "aim m 0"}
	for _, x := range []struct {
		lines  []string
		tick   int
		booked [2]int
		e      api.Errno
	}{
		{nil, 0, [2]int{}, api.OK}, {nil, 999999999, [2]int{}, api.OK}, {chapter(8), 4, [2]int{8000000, 8000000}, api.OK}, {chapter(8), 6, [2]int{40000000, 40000000}, api.OK}, {chapter(8), 3, [2]int{}, api.ErrState}, {chapter(8), 0, [2]int{}, api.ErrState}, {chapter(8), 999999999, [2]int{}, api.ErrLarge}, {chapter(13), 20, [2]int{40000000, 10000000}, api.OK}, {chapter(13), 99, [2]int{40000000, 10000000}, api.OK}, {chapter(13), 19, [2]int{}, api.ErrState}, {chapter(13, "aim b 30"), 31, [2]int{48000000, 18000000}, api.OK}, {chapter(8, "undo"), 3, [2]int{0, 0}, api.OK}, {chapter(8, "undo"), 4, [2]int{8000000, 8000000}, api.OK},
		{bright, 10000000, [2]int{plant.MaxHeat, plant.MaxHeat}, api.OK}, {bright, 10000001, [2]int{}, api.ErrLarge}, {append(bright, "offer o 0 0 9 1 1", "deliver o 1 1"), 10000000, [2]int{plant.MaxHeat, plant.MaxHeat - 1000000}, api.OK}, {append(bright, "offer o 0 0 9 1 1", "deliver o 1 1"), 10000001, [2]int{}, api.ErrLarge},
	} {
		booked, e := plant.Booked(events(x.lines...), x.tick)
		expect.Result(t, fmt.Sprintf("Booked %q %d", x.lines, x.tick), booked, e, x.booked, x.e)
	}
	for _, tick := range expect.Outside(0, 999999999) {
		for _, lines := range [][]string{nil, chapter(8), chapter(13), bright} {
			booked, e := plant.Booked(events(lines...), tick)
			expect.Result(t, "Booked at no tick", booked, e, [2]int{}, api.ErrRange)
		}
	}
}

func TestShortfallAndBill(t *testing.T) {
	two := chapter(12, "offer n 15 15 16 9 7")
	for _, x := range []struct {
		lines       []string
		offer       string
		short, bill int
		e           api.Errno
	}{
		{chapter(11), "o", 50, -10000, api.OK}, {chapter(12), "o", 20, -1000, api.OK}, {chapter(13), "o", 20, -1000, api.OK}, {chapter(11, "deliver o 10 1", "deliver o 10 4"), "o", 45, -8500, api.OK}, {chapter(10, "offer o 9 10 20 40 100", "deliver o 19 40"), "o", 0, 4000, api.OK}, {chapter(10, "offer o 9 10 20 1 0"), "o", 1, 0, api.OK}, {chapter(10, "offer o 9 10 20 1000 1000"), "o", 1000, -2000000, api.OK}, {two, "o", 20, -1000, api.OK}, {two, "n", 9, -126, api.OK}, {append(two, "deliver n 15 3"), "n", 6, -63, api.OK},
		{chapter(10), "o", 0, 0, api.ErrUnknown}, {chapter(11, "undo"), "o", 0, 0, api.ErrUnknown}, {chapter(13), "a", 0, 0, api.ErrUnknown}, {chapter(13), "n", 0, 0, api.ErrUnknown}, {chapter(13), "", 0, 0, api.ErrUnknown}, {nil, "", 0, 0, api.ErrUnknown},
	} {
		n, e := plant.Shortfall(events(x.lines...), x.offer)
		expect.Result(t, fmt.Sprintf("Shortfall %q %q", x.lines, x.offer), n, e, x.short, x.e)
		n, e = plant.Bill(events(x.lines...), x.offer)
		expect.Result(t, fmt.Sprintf("Bill %q %q", x.lines, x.offer), n, e, x.bill, x.e)
	}
}

func TestStory(t *testing.T) {
	mixed := chapter(4, "sector w 1", "mirror c w 1 5", "dim w 1", "dim n 1", "trip 1", "undo", "fill 1", "drain 1", "fill 1", "sun 2 5", "aim b 2", "aim c 2", "offer n 2 3 4 1 1", "offer c 2 3 4 1 1", "park b 3", "deliver c 3 0", "clean b 5")
	mixed[19] = "bill c 4"
	for _, x := range []struct {
		lines  []string
		mirror string
		story  []string
	}{
		{chapter(2), "a", chapter(2)}, {chapter(13), "a", []string{"sector n 0", "mirror a n 0 10", "fill 2", "sun 2 800", "aim a 3", "trip 6", "reset 9"}}, {chapter(13), "b", []string{"sector n 0", "mirror b n 0 20", "soil b 1 500", "fill 2", "sun 2 800", "aim b 4", "trip 6", "reset 9"}}, {chapter(8, "undo"), "b", []string{"sector n 0", "mirror b n 0 20", "soil b 1 500", "fill 2", "sun 2 800"}}, {chapter(6, "defect a 3", "repair a 4", "defect b 4"), "a", []string{"sector n 0", "mirror a n 0 10", "fill 2", "sun 2 800", "defect a 3", "repair a 4"}},
		{mixed, "b", []string{"sector n 0", "mirror b n 0 20", "soil b 1 500", "dim n 1", "fill 1", "drain 1", "fill 1", "sun 2 5", "aim b 2", "park b 3", "clean b 5"}}, {mixed, "c", []string{"sector w 1", "mirror c w 1 5", "dim w 1", "fill 1", "drain 1", "fill 1", "sun 2 5", "aim c 2"}},
		{[]string{"fill 0", "trip 0", "sector a 1", "sector n 1", "mirror a n 1 1", "mirror n a 1 1", "dim a 1", "soil n 1 1"}, "a", []string{"fill 0", "trip 0", "sector n 1", "mirror a n 1 1"}}, {[]string{"fill 0", "trip 0", "sector a 1", "sector n 1", "mirror a n 1 1", "mirror n a 1 1", "dim a 1", "soil n 1 1"}, "n", []string{"fill 0", "trip 0", "sector a 1", "mirror n a 1 1", "dim a 1", "soil n 1 1"}}, {[]string{"sector n 0", "sector s 0", "mirror a n 0 1", "undo", "mirror a s 0 2"}, "a", []string{"sector s 0", "mirror a s 0 2"}},
	} {
		story, e := plant.Story(events(x.lines...), x.mirror)
		want(t, fmt.Sprintf("Story %q %q", x.lines, x.mirror), story, e, events(x.story...), api.OK)
	}
	for _, name := range []string{"n", "o", "x", "", "A", "a "} {
		story, e := plant.Story(events(chapter(13)...), name)
		want(t, "Story of no mirror", story, e, []api.Event{}, api.ErrUnknown)
	}
	story, e := plant.Story(events(chapter(2, "undo")...), "a")
	want(t, "Story of a mirror that is undone", story, e, []api.Event{}, api.ErrUnknown)
}

// TestQuestionsOfWrongEvents checks that their error decides before all others, with nothing beside it.
func TestQuestionsOfWrongEvents(t *testing.T) {
	for _, x := range []struct {
		l []api.Event
		e api.Errno
	}{{events(chapter(4, "aim a 1")...), api.ErrCold}, {events(chapter(8, "undo 3")...), api.ErrShape}, {append(events(chapter(12)...), event(14, "undo")), api.ErrOrder}, {make([]api.Event, 1001), api.ErrMany}, {events(chapter(12, "bill o 19")...), api.ErrOpen}} {
		n, e := plant.Rate(x.l)
		expect.Result(t, "Rate", n, e, 0, x.e)
		l, e := plant.Aimed(x.l)
		expect.List(t, "Aimed", l, e, nil, x.e)
		for _, name := range []string{"n", "a", "o", "x", ""} {
			count, e := plant.Sector(x.l, name)
			expect.Result(t, "Sector", count, e, [2]int{}, x.e)
			n, e := plant.Shortfall(x.l, name)
			expect.Result(t, "Shortfall", n, e, 0, x.e)
			n, e = plant.Bill(x.l, name)
			expect.Result(t, "Bill", n, e, 0, x.e)
			story, e := plant.Story(x.l, name)
			want(t, "Story", story, e, []api.Event{}, x.e)
		}
		for _, tick := range []int{-1, 0, 4, 99, 999999999, 1000000000} {
			booked, e := plant.Booked(x.l, tick)
			expect.Result(t, "Booked", booked, e, [2]int{}, x.e)
		}
	}
}

// TestLightByDefinition compares all questions with the definitions.
func TestLightByDefinition(t *testing.T) {
	rnd := rand.New(rand.NewSource(2))
	stories, offers := 0, 0
	for range 150 {
		l := randomPlant(rnd, rnd.Intn(60))
		counted := counting(l)
		r := registerOf(counted)
		n, e := plant.Rate(l)
		expect.Result(t, "Rate", n, e, rateOf(counted), api.OK)
		var aimed []string
		for _, name := range []string{"n", "s"} {
			var wanted [2]int
			isThere := api.ErrUnknown
			for _, s := range r.Sectors {
				if s == name {
					isThere = api.OK
				}
			}
			for _, m := range r.Mirrors {
				if m.Sector == name {
					wanted[0]++
				}
				if m.Sector == name && m.Aimed {
					wanted[1]++
				}
			}
			count, e := plant.Sector(l, name)
			expect.Result(t, "Sector", count, e, wanted, isThere)
		}
		for _, m := range r.Mirrors {
			stories++
			story, e := plant.Story(l, m.Name)
			want(t, "Story", story, e, storyOf(counted, m), api.OK)
			if m.Aimed {
				aimed = append(aimed, m.Name)
			}
		}
		names, e := plant.Aimed(l)
		expect.List(t, "Aimed", names, e, aimed, api.OK)
		for _, o := range r.Offers {
			offers++
			n, e := plant.Shortfall(l, o.Name)
			expect.Result(t, "Shortfall", n, e, o.Energy-o.Delivered, api.OK)
			n, e = plant.Bill(l, o.Name)
			expect.Result(t, "Bill", n, e, billOf(o), api.OK)
		}
		tick := r.Tick + rnd.Intn(1000)
		booked, e := plant.Booked(l, tick)
		expect.Result(t, "Booked", booked, e, [2]int{lightAt(counted, tick), lightAt(counted, tick) - drawn(counted)}, api.OK)
	}
	if stories < 150 || offers < 100 {
		t.Errorf("there were only %d stories and %d offers", stories, offers)
	}
}
