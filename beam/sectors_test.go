package beam_test

import (
	"math/rand"
	"slices"
	"testing"

	"spillage/api"
	"spillage/beam"
	"spillage/expect"
)

// P6.4

func TestJoined(t *testing.T) {
	for _, m := range []beam.Mirror{named("x", "n", mirror(1, 0, 10)), named("x", "x", mirror(2, 0, 0)), named("M", "m", mirror(3, 0, 5)), named("n", "w", mirror(3, 0, 9, ints()...))} {
		for _, before := range []beam.Field{field(10), dusk(), day(), field(10, standing(15)...)} {
			f, e := beam.Joined(wide(), before, m)
			wanted := clonedField(before)
			wanted.Mirrors = append(wanted.Mirrors, m)
			wantField(t, "Joined", f, e, wanted, api.OK)
		}
	}
	f, e := beam.Joined(wide(), field(10, standing(16)...), named("x", "n", mirror(1, 0, 10)))
	wantField(t, "Joined to a full field", f, e, beam.Field{}, api.ErrMany)
	f, e = beam.Joined(beam.Grid{}, field(10), named("x", "n", mirror(0, 0, 10)))
	wantField(t, "Joined to a grid without stations", f, e, beam.Field{}, api.ErrUnknown)
}

func TestTaken(t *testing.T) {
	three := []beam.Mirror{mirror(1, 0, 9), named("k", "n", mirror(3, 0, 9)), named("l", "w", mirror(2, 0, 4))}
	for _, x := range []struct {
		name string
		l    []beam.Mirror
	}{{"m", three[1:]}, {"k", []beam.Mirror{three[0], three[2]}}, {"l", three[:2]}} {
		f, e := beam.Taken(wide(), field(10, three...), x.name)
		wantField(t, "Taken", f, e, field(10, x.l...), api.OK)
	}
	f, e := beam.Taken(wide(), field(16, mirror(1, 0, 9)), "m")
	wantField(t, "Taken of the last mirror", f, e, field(16), api.OK)
	for _, m := range []beam.Mirror{mirror(0, 0, 9), mirror(0, 1, 9, 1), mirror(1, 1, 9, 3), mirror(1, 3, 9, 2, 1)} {
		f, e = beam.Taken(wide(), field(10, named("k", "n", mirror(1, 0, 9)), m), "m")
		wantField(t, "Taken of a mirror that is not dark", f, e, beam.Field{}, api.ErrState)
	}
	f, e = beam.Taken(wide(), field(10), "m")
	wantField(t, "Taken of no mirrors", f, e, beam.Field{}, api.ErrUnknown)
}

func TestSector(t *testing.T) {
	for _, x := range []struct {
		sector string
		l      []string
	}{{"n", []string{"m", "k"}}, {"w", []string{"l"}}} {
		l, e := beam.Sector(wide(), day(), x.sector)
		expect.List(t, "Sector", l, e, x.l, api.OK)
	}
	l, e := beam.Sector(wide(), field(10, standing(16)...), "n")
	if len(l) != 16 || l[15] != "m15" || e != api.OK {
		t.Errorf("Sector of all mirrors: %v, error %d", l, e)
	}
	l, e = beam.Sector(wide(), field(10), "n")
	expect.List(t, "Sector of no mirrors", l, e, nil, api.ErrUnknown)
	f, e := beam.Defocused(wide(), field(10), "n")
	wantField(t, "Defocused of no mirrors", f, e, beam.Field{}, api.ErrUnknown)
}

func TestExamplesOfDefocused(t *testing.T) {
	other := named("l", "w", mirror(0, 0, 4))
	for i, x := range []struct{ from, to beam.Mirror }{
		{mirror(0, 0, 9), mirror(0, 4, 10, 1)}, {mirror(3, 9, 9, 1, 0), mirror(3, 9, 10, 1)}, {mirror(1, 0, 3), mirror(1, 0, 10)}, {mirror(3, 0, 3), mirror(3, 9, 10, 2)}, {mirror(1, 2, 3, 0), mirror(1, 2, 10, 0, 1)}, {mirror(1, 2, 3, 3, 1), mirror(1, 2, 10, 3, 2)}, {mirror(0, 1, 10, 1, 2, 3), mirror(0, 1, 10, 1)},
	} {
		f, e := beam.Defocused(wide(), field(10, other, x.from), "n")
		if wanted := field(10, other, x.to); !sameField(f, wanted) || e != api.OK {
			t.Errorf("Defocused %d: %v, error %d, want %v", i, f, e, wanted)
		}
	}
	f, e := beam.Defocused(wide(), day(), "n")
	wantField(t, "Defocused of two", f, e, field(10, mirror(0, 4, 10, 1), named("k", "n", mirror(1, 2, 10, 2)), named("l", "w", mirror(1, 0, 4))), api.OK)
}

func TestSectorsAsDefined(t *testing.T) {
	rnd := rand.New(rand.NewSource(98))
	joined, taken := 0, 0
	for range 1000 {
		g := netOf(randomGrid(rnd, between(rnd, 1, 6)))
		f := randomField(rnd, g, between(rnd, 1, 5))
		for _, sector := range []string{"n", "w"} {
			var names []string
			for _, m := range f.Mirrors {
				if m.Sector == sector {
					names = append(names, m.Name)
				}
			}
			l, e := beam.Sector(g.Grid, f, sector)
			got, e2 := beam.Defocused(g.Grid, f, sector)
			if names == nil {
				expect.List(t, "Sector", l, e, nil, api.ErrUnknown)
				wantField(t, "Defocused", got, e2, beam.Field{}, api.ErrUnknown)
				continue
			}
			expect.List(t, "Sector", l, e, names, api.OK)
			wantField(t, "Defocused", got, e2, defocused(g, f, sector), api.OK)
		}
		for i, m := range f.Mirrors {
			rest := clonedField(f)
			rest.Mirrors = slices.Delete(rest.Mirrors, i, i+1)
			got, e := beam.Taken(g.Grid, f, m.Name)
			if !isDark(g, field(0, m)) {
				wantField(t, "Taken", got, e, beam.Field{}, api.ErrState)
				got, e = beam.Joined(g.Grid, rest, m)
				wantField(t, "Joined", got, e, beam.Field{}, api.ErrState)
				continue
			}
			taken++
			wantField(t, "Taken", got, e, rest, api.OK)
			rest.Mirrors = append(rest.Mirrors, m)
			again, e := beam.Joined(g.Grid, got, m)
			wantField(t, "Joined", again, e, rest, api.OK)
			joined++
		}
	}
	if joined < 200 || taken < 200 {
		t.Errorf("%d mirrors joined, and %d were taken", joined, taken)
	}
}
