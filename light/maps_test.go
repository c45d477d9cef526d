package light_test

import (
	"math"
	"math/rand"
	"slices"
	"testing"

	"spillage/api"
	"spillage/expect"
	"spillage/light"
)

// P1.2

func TestCheckMap(t *testing.T) {
	for i, m := range []light.Map{
		six(), table(1, 1, 0), table(1, 1, minusZero()), flat(64, 64, 1024), flat(64, 64, -1024), flat(64, 1, 0.0625), flat(1, 64, 1),
	} {
		if e := light.CheckMap(m); e != api.OK {
			t.Errorf("CheckMap of the right map %d: %d", i, e)
		}
	}
	for i, x := range wrongMaps() {
		if e := light.CheckMap(x.m); e != x.e {
			t.Errorf("CheckMap of the wrong map %d: %d, want %d", i, e, x.e)
		}
	}
	late := flat(64, 64, 1)
	late.Samples[4095] = nan()
	expect.Err(t, "CheckMap with a wrong last sample", light.CheckMap(late), api.ErrForm)
	late.Samples[4094] = 1025
	expect.Err(t, "CheckMap with two wrong samples", light.CheckMap(late), api.ErrRange)
}

func TestWrongMapsEverywhere(t *testing.T) {
	for _, x := range wrongMaps() {
		n, e := light.At(x.m, at(-1, 0))
		expect.Err(t, "At", e, x.e)
		if n != 0 {
			t.Errorf("At: %v beside an error", n)
		}
		light1, e := light.Total(x.m)
		expect.Err(t, "Total", e, x.e)
		if light1 != 0 {
			t.Errorf("Total: %v beside an error", light1)
		}
		peak, where, e := light.Peak(x.m)
		expect.Err(t, "Peak", e, x.e)
		if peak != 0 || where != at(0, 0) {
			t.Errorf("Peak: %v %v beside an error", peak, where)
		}
		m, e := light.Part(x.m, span(1, 1), span(0, 99))
		wantNoMap(t, "Part", m, e, x.e)
		m, e = light.Placed(x.m, 0, 65, at(-1, -1))
		wantNoMap(t, "Placed", m, e, x.e)
		m, e = light.Flipped(x.m)
		wantNoMap(t, "Flipped", m, e, x.e)
		m, e = light.Turned(x.m)
		wantNoMap(t, "Turned", m, e, x.e)
	}
}

func TestAt(t *testing.T) {
	for y := -1; y <= 3; y++ {
		for x := -1; x <= 4; x++ {
			n, e := light.At(six(), at(x, y))
			if x < 0 || y < 0 || x > 2 || y > 1 {
				expect.Err(t, "At outside", e, api.ErrUnknown)
				if n != 0 {
					t.Errorf("At %d %d: %v beside an error", x, y, n)
				}
				continue
			}
			expect.Err(t, "At", e, api.OK)
			if n != float32(1+3*y+x) {
				t.Errorf("At %d %d: %v", x, y, n)
			}
		}
	}
	for _, p := range []api.Point{at(math.MaxInt, 0), at(0, math.MaxInt), at(math.MinInt, 0), at(0, math.MinInt), at(-3, 1), at(3, -1), at(5, 0), at(0, 3074457345618258603)} {
		_, e := light.At(six(), p)
		expect.Err(t, "At far outside", e, api.ErrUnknown)
	}
	n, e := light.At(table(2, 1, -1024, -0.0625), at(1, 0))
	if n != -0.0625 || e != api.OK {
		t.Errorf("At: %v, %d", n, e)
	}
}

func TestTotal(t *testing.T) {
	for _, x := range []struct {
		m light.Map
		n int
	}{
		{six(), 336}, {table(1, 1, 0), 0}, {table(1, 1, -0.0625), -1}, {table(2, 1, 0.0625, -0.125), -1}, {table(1, 2, 1024, -1024), 0},
		{flat(64, 64, 1024), 67108864}, {flat(64, 64, -1024), -67108864}, {flat(64, 64, 0.0625), 4096}, {flat(64, 64, 1023.9375), 4096 * 16383},
	} {
		n, e := light.Total(x.m)
		expect.Err(t, "Total", e, api.OK)
		if n != x.n {
			t.Errorf("Total of %d by %d: %d, want %d", x.m.Width, x.m.Height, n, x.n)
		}
	}
}

func TestPeak(t *testing.T) {
	for i, x := range []struct {
		m light.Map
		n float32
		p api.Point
	}{
		{six(), 6, at(2, 1)}, {table(2, 2, -3, 7, 7, 1), 7, at(1, 0)}, {table(2, 1, -3, -2), -2, at(1, 0)}, {table(2, 1, -2, -3), -2, at(0, 0)},
		{table(2, 2, 0, 0, 0, 0), 0, at(0, 0)}, {table(1, 1, -1024), -1024, at(0, 0)}, {table(2, 2, 1, 2, 5, 5), 5, at(0, 1)},
		{table(3, 1, minusZero(), 0, minusZero()), 0, at(0, 0)}, {table(1, 3, 1, 1024, 1023.9375), 1024, at(0, 1)},
		{table(3, 2, 1, 0, 2, 0, 2.0625, 2), 2.0625, at(1, 1)},
	} {
		n, p, e := light.Peak(x.m)
		expect.Err(t, "Peak", e, api.OK)
		if n != x.n || p != x.p {
			t.Errorf("Peak %d: %v at %v, want %v at %v", i, n, p, x.n, x.p)
		}
	}
}

func TestPart(t *testing.T) {
	m, e := light.Part(six(), span(1, 3), span(1, 2))
	wantMap(t, "the chapter's part", m, e, table(2, 1, 5, 6))
	for c := range 49 {
		for r := range 49 {
			columns, rows := span(c/7-1, c%7-1), span(r/7-1, r%7-1)
			m, e := light.Part(six(), columns, rows)
			if columns.From < 0 || columns.To > 3 || columns.From >= columns.To || rows.From < 0 || rows.To > 2 || rows.From >= rows.To {
				wantNoMap(t, "Part of a wrong span", m, e, api.ErrSpan)
				continue
			}
			wantMap(t, "Part", m, e, drawn(columns.To-columns.From, rows.To-rows.From, func(x, y int) int {
				return integerAt(six(), columns.From+x, rows.From+y)
			}))
		}
	}
	for _, s := range []api.Span{span(math.MinInt, math.MaxInt), span(0, math.MaxInt), span(math.MinInt, 1), span(math.MaxInt, math.MinInt), span(2, 1)} {
		m, e := light.Part(six(), s, span(0, 1))
		wantNoMap(t, "Part of wrong columns", m, e, api.ErrSpan)
		m, e = light.Part(six(), span(0, 1), s)
		wantNoMap(t, "Part of wrong rows", m, e, api.ErrSpan)
	}
}

func TestPlaced(t *testing.T) {
	m, e := light.Placed(six(), 4, 3, at(1, 1))
	wantMap(t, "the chapter's map", m, e, table(4, 3, 0, 0, 0, 0, 0, 1, 2, 3, 0, 4, 5, 6))
	for width := 1; width <= 5; width++ {
		for height := 1; height <= 5; height++ {
			for x := -1; x <= 4; x++ {
				for y := -1; y <= 4; y++ {
					m, e := light.Placed(six(), width, height, at(x, y))
					if x < 0 || y < 0 || x+3 > width || y+2 > height {
						wantNoMap(t, "Placed outside", m, e, api.ErrSpan)
						continue
					}
					wantMap(t, "Placed", m, e, drawn(width, height, func(a, b int) int { return integerAt(six(), a-x, b-y) }))
				}
			}
		}
	}
	m, e = light.Placed(six(), 64, 64, at(61, 62))
	expect.Err(t, "Placed on the greatest map", e, api.OK)
	if len(m.Samples) != 4096 || m.Samples[4095] != 6 || m.Samples[63*64+60] != 0 {
		t.Errorf("Placed on the greatest map: %d samples", len(m.Samples))
	}
}

func TestPlacedWithErrors(t *testing.T) {
	for _, n := range []int{0, -1, 65, math.MaxInt, math.MinInt} {
		m, e := light.Placed(six(), n, 3, at(-1, 0))
		wantNoMap(t, "Placed with a wrong width", m, e, api.ErrRange)
		m, e = light.Placed(six(), 3, n, at(-1, 0))
		wantNoMap(t, "Placed with a wrong height", m, e, api.ErrRange)
	}
	for _, p := range []api.Point{
		at(math.MaxInt, 0), at(math.MinInt, 0), at(0, math.MaxInt), at(0, math.MinInt), at(math.MaxInt-2, math.MaxInt-1),
	} {
		m, e := light.Placed(six(), 4, 3, p)
		wantNoMap(t, "Placed far outside", m, e, api.ErrSpan)
	}
}

func TestFlippedAndTurned(t *testing.T) {
	m, e := light.Flipped(six())
	wantMap(t, "the chapter's flipped map", m, e, table(3, 2, 3, 2, 1, 6, 5, 4))
	m, e = light.Turned(six())
	wantMap(t, "the chapter's turned map", m, e, table(2, 3, 4, 1, 5, 2, 6, 3))
	randoms(16384, func(_ *rand.Rand, m light.Map) {
		f, e := light.Flipped(m)
		wantMap(t, "Flipped", f, e, drawn(m.Width, m.Height, func(x, y int) int { return integerAt(m, m.Width-1-x, y) }))
		r, e := light.Turned(m)
		wantMap(t, "Turned", r, e, drawn(m.Height, m.Width, func(x, y int) int { return integerAt(m, y, m.Height-1-x) }))
	})
}

// TestResultsAreNew checks that no result shares memory with its argument, and that no argument is changed.
func TestResultsAreNew(t *testing.T) {
	for name, call := range map[string]func(light.Map) (light.Map, api.Errno){
		"Part":    func(m light.Map) (light.Map, api.Errno) { return light.Part(m, span(0, 3), span(0, 2)) },
		"Placed":  func(m light.Map) (light.Map, api.Errno) { return light.Placed(m, 3, 2, at(0, 0)) },
		"Flipped": light.Flipped,
		"Turned":  light.Turned,
		"Added":   func(m light.Map) (light.Map, api.Errno) { return light.Added(m, m) },
		"Scaled":  func(m light.Map) (light.Map, api.Errno) { return light.Scaled(m, 1, 1) },
		"Spread":  func(m light.Map) (light.Map, api.Errno) { return light.Spread(m, 3) },
		"Binned":  func(m light.Map) (light.Map, api.Errno) { return light.Binned(m, 1) },
	} {
		m := six()
		out, e := call(m)
		expect.Err(t, name, e, api.OK)
		if !slices.Equal(m.Samples, six().Samples) {
			t.Errorf("%s changes its argument", name)
		}
		for i := range out.Samples {
			out.Samples[i] = 99
		}
		if !slices.Equal(m.Samples, six().Samples) {
			t.Errorf("%s shares memory with its argument", name)
		}
	}
}
