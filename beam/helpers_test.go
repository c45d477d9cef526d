package beam_test

import (
	"math/rand"
	"reflect"
	"slices"
	"strconv"
	"testing"

	"spillage/api"
	"spillage/beam"
	"spillage/expect"
)

func at(x, y int) api.Point { return api.Point{X: x, Y: y} }

func ints(l ...int) []int { return l }

func station(name, kind string, x, y int) beam.Station {
	return beam.Station{Name: name, Kind: kind, Place: at(x, y)}
}

func move(from, to, steps int) beam.Move { return beam.Move{From: from, To: to, Steps: steps} }

func zone(name string, x, y, radius int) beam.Zone {
	return beam.Zone{Name: name, Centre: at(x, y), Radius: radius}
}

// plane returns the grid G of the chapter's examples.
func plane() beam.Grid {
	return beam.Grid{
		Blur:     5,
		Stations: []beam.Station{station("f", "focus", 500, 500), station("a", "standby", 400, 500), station("b", "standby", 500, 300), station("s", "stow", 0, 0)},
		Moves:    []beam.Move{move(0, 1, 4), move(0, 2, 6), move(1, 2, 3), move(1, 3, 10), move(2, 3, 9)},
		Zones:    []beam.Zone{zone("bird", 500, 400, 20)},
	}
}

// The stations that wide has beside those of G.
const (
	held  = 4
	alone = 5
)

// wide returns G with a standby in the zone, to which two moves lead, and a stow to which none leads.
func wide() beam.Grid {
	return altered(plane(), func(g *beam.Grid) {
		g.Stations = append(g.Stations, station("u", "standby", 500, 410), station("p", "stow", 900, 900))
		g.Moves = append(g.Moves, move(0, 4, 1), move(2, 4, 1))
	})
}

// altered returns a grid after a change.
func altered(g beam.Grid, change func(g *beam.Grid)) beam.Grid {
	g = clonedGrid(g)
	change(&g)
	return g
}

// cut returns G without its first move.
func cut() beam.Grid { return altered(plane(), func(g *beam.Grid) { g.Moves = g.Moves[1:] }) }

// beside returns G with the zone around the station a.
func beside() beam.Grid {
	return altered(plane(), func(g *beam.Grid) { g.Zones[0].Centre = at(400, 500) })
}

// greatest returns a grid with the most of everything: a row of stations that one line joins.
func greatest() beam.Grid {
	g := beam.Grid{Blur: 100}
	for i := range 16 {
		g.Stations = append(g.Stations, station("abcdefghijklmnopqrstuvw"+string(rune('a'+i)), "standby", 1000, 1000))
	}
	for i := range 8 {
		g.Zones = append(g.Zones, zone("abcdefghijklmnopqrstuvw"+string(rune('a'+i)), 0, 1000, 500))
	}
	for from := range 16 {
		for to := from + 1; to < 16 && len(g.Moves) < 40; to++ {
			g.Moves = append(g.Moves, move(from, to, 20))
		}
	}
	return g
}

// chain returns a grid of 16 stations in a row, of which the last one is a focus and the first one a standby, joined by moves of 20 steps.
func chain() beam.Grid {
	var g beam.Grid
	for i := range 16 {
		g.Stations = append(g.Stations, station("s"+strconv.Itoa(i), "stow", 10*i, 0))
	}
	for i := range 15 {
		g.Moves = append(g.Moves, move(i, i+1, 20))
	}
	g.Stations[0].Kind, g.Stations[15].Kind = "standby", "focus"
	return g
}

// mirror returns the mirror m of the sector n.
func mirror(at, left, heard int, way ...int) beam.Mirror {
	return beam.Mirror{Name: "m", Sector: "n", At: at, Way: way, Left: left, Heard: heard}
}

// named returns a mirror with another name and sector.
func named(name, sector string, m beam.Mirror) beam.Mirror {
	m.Name, m.Sector = name, sector
	return m
}

// field returns a field with the lease 3.
func field(tick int, l ...beam.Mirror) beam.Field {
	return beam.Field{Tick: tick, Lease: 3, Mirrors: l}
}

// dusk returns the field F of the chapter's examples.
func dusk() beam.Field { return field(10, mirror(0, 0, 9)) }

// day returns a field of three mirrors: one at the focus, one on its way, and one on standby.
func day() beam.Field {
	return field(10, mirror(0, 0, 9), named("k", "n", mirror(1, 2, 8, 2, 3)), named("l", "w", mirror(1, 0, 4)))
}

// standing returns n mirrors that stand at the station a.
func standing(n int) []beam.Mirror {
	var l []beam.Mirror
	for i := range n {
		l = append(l, named("m"+strconv.Itoa(i), "n", mirror(1, 0, 0)))
	}
	return l
}

func order(mirror, station string) beam.Order {
	return beam.Order{Mirror: mirror, Station: station}
}

func lost(o beam.Order) beam.Order {
	o.Lost = true
	return o
}

func clonedGrid(g beam.Grid) beam.Grid {
	g.Stations, g.Moves, g.Zones = slices.Clone(g.Stations), slices.Clone(g.Moves), slices.Clone(g.Zones)
	return g
}

func clonedField(f beam.Field) beam.Field {
	f.Mirrors = slices.Clone(f.Mirrors)
	for i, m := range f.Mirrors {
		f.Mirrors[i].Way = slices.Clone(m.Way)
	}
	return f
}

func sameGrid(a, b beam.Grid) bool {
	return a.Blur == b.Blur && slices.Equal(a.Stations, b.Stations) && slices.Equal(a.Moves, b.Moves) && slices.Equal(a.Zones, b.Zones)
}

func sameMirror(a, b beam.Mirror) bool {
	return a.Name == b.Name && a.Sector == b.Sector && a.At == b.At && slices.Equal(a.Way, b.Way) && a.Left == b.Left && a.Heard == b.Heard
}

func sameField(a, b beam.Field) bool {
	return a.Tick == b.Tick && a.Lease == b.Lease && slices.EqualFunc(a.Mirrors, b.Mirrors, sameMirror)
}

// wantField reports a field or an error that is not the expected one.
func wantField(t *testing.T, what string, got beam.Field, e api.Errno, wanted beam.Field, wantedErr api.Errno) {
	t.Helper()
	if !sameField(got, wanted) || e != wantedErr {
		t.Errorf("%s: got %v, error %d, want %v, error %d", what, got, e, wanted, wantedErr)
	}
}

type wrong[T any] struct {
	x T
	e api.Errno
}

// wrongNames are strings that are no names.
func wrongNames() []string {
	return []string{"", "7", "_a", "a b", "a-b", "s\n", "\xff", "\u00e4", "abcdefghijklmnopqrstuvwxy"}
}

func wrongGrids() []wrong[beam.Grid] {
	var l []wrong[beam.Grid]
	add := func(e api.Errno, change func(g *beam.Grid)) {
		l = append(l, wrong[beam.Grid]{altered(wide(), change), e})
	}
	for _, n := range expect.Outside(0, 100) {
		add(api.ErrRange, func(g *beam.Grid) { g.Blur = n })
		add(api.ErrRange, func(g *beam.Grid) { *g = beam.Grid{Blur: n, Stations: make([]beam.Station, 17)} })
	}
	addWrongStations(add)
	addWrongMoves(add)
	addWrongZones(add)
	return l
}

func addWrongStations(add func(e api.Errno, change func(g *beam.Grid))) {
	for _, n := range ints(17, 1000) {
		add(api.ErrMany, func(g *beam.Grid) { g.Stations = make([]beam.Station, n) })
	}
	add(api.ErrMany, func(g *beam.Grid) {
		*g = greatest()
		g.Stations = append(g.Stations, station("more", "stow", 0, 0))
		g.Moves[0].From = -1
	})
	for _, name := range wrongNames() {
		add(api.ErrName, func(g *beam.Grid) { g.Stations[0].Name = name })
		add(api.ErrName, func(g *beam.Grid) { g.Stations[5] = beam.Station{Name: name, Place: at(-1, -1)} })
		add(api.ErrName, func(g *beam.Grid) { g.Stations[2].Name, g.Stations[3].Kind = name, "" })
		add(api.ErrKind, func(g *beam.Grid) { g.Stations[2].Kind, g.Stations[3].Name = "x", name })
	}
	add(api.ErrTwice, func(g *beam.Grid) { g.Stations[1].Name = "f" })
	add(api.ErrTwice, func(g *beam.Grid) { g.Stations[5] = beam.Station{Name: "s", Kind: "x", Place: at(-1, -1)} })
	add(api.ErrTwice, func(g *beam.Grid) { g.Stations[3], g.Stations[4].Name = g.Stations[0], "" })
	for _, kind := range []string{"", "park", "Focus", "focus ", "stand", "standbys", "stows", "\xff"} {
		add(api.ErrKind, func(g *beam.Grid) { g.Stations[0].Kind = kind })
		add(api.ErrKind, func(g *beam.Grid) { g.Stations[5].Kind, g.Stations[5].Place.X = kind, -1 })
	}
	for _, n := range expect.Outside(0, 1000) {
		add(api.ErrRange, func(g *beam.Grid) { g.Stations[0].Place.X = n })
		add(api.ErrRange, func(g *beam.Grid) { g.Stations[5].Place.Y = n })
		add(api.ErrRange, func(g *beam.Grid) { g.Stations[1].Place.Y, g.Stations[2].Name = n, "f" })
		add(api.ErrRange, func(g *beam.Grid) { g.Stations[5].Place.X, g.Moves = n, make([]beam.Move, 41) })
	}
}

func addWrongMoves(add func(e api.Errno, change func(g *beam.Grid))) {
	for _, n := range ints(41, 1000) {
		add(api.ErrMany, func(g *beam.Grid) { g.Moves = make([]beam.Move, n) })
	}
	add(api.ErrMany, func(g *beam.Grid) {
		*g = greatest()
		g.Moves = append(g.Moves, move(14, 15, 1))
		g.Zones[0].Name = ""
	})
	for _, n := range expect.Outside(0, 5) {
		add(api.ErrUnknown, func(g *beam.Grid) { g.Moves[0].From = n })
		add(api.ErrUnknown, func(g *beam.Grid) { g.Moves[6].To = n })
		add(api.ErrUnknown, func(g *beam.Grid) { g.Moves[3] = move(n, n, 0) })
		add(api.ErrUnknown, func(g *beam.Grid) { g.Moves[3] = move(2, n, 0) })
		add(api.ErrUnknown, func(g *beam.Grid) { g.Moves[3], g.Moves[4] = move(n, 2, 1), move(3, 3, 1) })
		add(api.ErrOrder, func(g *beam.Grid) { g.Moves[3], g.Moves[4] = move(3, 3, 0), move(n, 3, 1) })
	}
	add(api.ErrUnknown, func(g *beam.Grid) { g.Stations = nil })
	for _, m := range []beam.Move{move(1, 0, 4), move(0, 0, 4), move(5, 5, 0), move(5, 0, 21), move(2, 1, 0)} {
		add(api.ErrOrder, func(g *beam.Grid) { g.Moves[3] = m })
	}
	add(api.ErrTwice, func(g *beam.Grid) { g.Moves[1] = move(0, 1, 5) })
	add(api.ErrTwice, func(g *beam.Grid) { g.Moves[6] = move(0, 1, 0) })
	add(api.ErrTwice, func(g *beam.Grid) { g.Moves[4], g.Moves[5] = move(1, 3, 21), move(9, 9, 9) })
	for _, n := range expect.Outside(1, 20) {
		add(api.ErrRange, func(g *beam.Grid) { g.Moves[0].Steps = n })
		add(api.ErrRange, func(g *beam.Grid) { g.Moves[6].Steps = n })
		add(api.ErrRange, func(g *beam.Grid) { g.Moves[3].Steps, g.Moves[4].From = n, -1 })
		add(api.ErrRange, func(g *beam.Grid) { g.Moves[6].Steps, g.Zones = n, make([]beam.Zone, 9) })
	}
}

func addWrongZones(add func(e api.Errno, change func(g *beam.Grid))) {
	pair := func(a, b beam.Zone) func(g *beam.Grid) {
		return func(g *beam.Grid) { g.Zones = []beam.Zone{zone("first", 0, 0, 0), a, b} }
	}
	right := zone("right", 1000, 1000, 500)
	for _, n := range ints(9, 1000) {
		add(api.ErrMany, func(g *beam.Grid) { g.Zones = make([]beam.Zone, n) })
	}
	add(api.ErrMany, func(g *beam.Grid) { *g = greatest(); g.Zones = append(g.Zones, right) })
	add(api.ErrTwice, pair(right, zone("first", 0, 0, 0)))
	add(api.ErrTwice, pair(zone("first", -1, -1, -1), zone("", 0, 0, 0)))
	for _, x := range wrongZones() {
		add(x.e, pair(x.x, right))
		add(x.e, pair(right, x.x))
		add(x.e, pair(x.x, zone("first", 0, 0, 0)))
		add(x.e, pair(x.x, beam.Zone{}))
	}
}

func wrongZones() []wrong[beam.Zone] {
	var l []wrong[beam.Zone]
	for _, name := range wrongNames() {
		l = append(l, wrong[beam.Zone]{zone(name, 0, 0, 0), api.ErrName}, wrong[beam.Zone]{zone(name, -1, -1, -1), api.ErrName})
	}
	for _, n := range expect.Outside(0, 1000) {
		l = append(l, wrong[beam.Zone]{zone("z", n, 0, 0), api.ErrRange}, wrong[beam.Zone]{zone("z", 1000, n, 500), api.ErrRange})
	}
	for _, n := range expect.Outside(0, 500) {
		l = append(l, wrong[beam.Zone]{zone("z", 1000, 0, n), api.ErrRange})
	}
	return l
}

func wrongBlurs() []wrong[int] {
	var l []wrong[int]
	for _, n := range expect.Outside(0, 100) {
		l = append(l, wrong[int]{n, api.ErrRange})
	}
	return l
}

func wrongLines() []wrong[[2]api.Point] {
	var l []wrong[[2]api.Point]
	for _, n := range expect.Outside(0, 1000) {
		for _, p := range []api.Point{at(n, 0), at(1000, n), at(n, n)} {
			l = append(l, wrong[[2]api.Point]{[2]api.Point{p, {}}, api.ErrRange}, wrong[[2]api.Point]{[2]api.Point{{}, p}, api.ErrRange})
		}
	}
	return l
}

// wrongIndices are the indices of no safe station of the grid wide.
func wrongIndices() []wrong[int] {
	l := []wrong[int]{{held, api.ErrHeld}}
	for _, n := range expect.Outside(0, 5) {
		l = append(l, wrong[int]{n, api.ErrUnknown})
	}
	return l
}

// wrongWays are ways that are none in the grid wide.
func wrongWays() []wrong[[]int] {
	l := []wrong[[]int]{
		{nil, api.ErrEmpty}, {ints(), api.ErrEmpty}, {make([]int, 41), api.ErrMany}, {slices.Repeat(ints(9), 41), api.ErrMany}, {make([]int, 100000), api.ErrMany},
		{ints(held), api.ErrHeld}, {ints(held, 0), api.ErrHeld}, {ints(held, held), api.ErrHeld}, {ints(held, 0, 2), api.ErrHeld},
		{ints(0, held), api.ErrRule}, {ints(0, 2), api.ErrRule}, {ints(2, 0), api.ErrRule}, {ints(0, 0), api.ErrRule}, {ints(0, 3), api.ErrRule}, {ints(0, 1, 1), api.ErrRule}, {ints(0, 1, 0, 2), api.ErrRule}, {ints(1, alone), api.ErrRule}, {ints(alone, alone), api.ErrRule}, {make([]int, 40), api.ErrRule}, {append(slices.Repeat(ints(0, 1), 19), 0, 2), api.ErrRule},
	}
	for _, n := range expect.Outside(0, 5) {
		l = append(l, wrong[[]int]{ints(n), api.ErrUnknown}, wrong[[]int]{ints(held, n), api.ErrUnknown}, wrong[[]int]{ints(0, 2, n), api.ErrUnknown}, wrong[[]int]{ints(0, 1, n, 9), api.ErrUnknown}, wrong[[]int]{append(make([]int, 39), n), api.ErrUnknown})
	}
	return l
}

// wrongSets are no ascending lists of stations of the grid wide.
func wrongSets() []wrong[[]int] {
	l := []wrong[[]int]{{make([]int, 17), api.ErrMany}, {slices.Repeat(ints(-1), 17), api.ErrMany}, {make([]int, 100000), api.ErrMany}, {ints(0, 0), api.ErrOrder}, {ints(1, 0), api.ErrOrder}, {ints(0, 2, 1), api.ErrOrder}, {ints(0, 1, 2, 2), api.ErrOrder}, {make([]int, 16), api.ErrOrder}, {ints(1, 0, 2), api.ErrOrder}}
	for _, n := range expect.Outside(0, 5) {
		l = append(l, wrong[[]int]{ints(n), api.ErrUnknown}, wrong[[]int]{ints(0, n), api.ErrUnknown}, wrong[[]int]{ints(1, 0, n), api.ErrUnknown}, wrong[[]int]{append(make([]int, 15), n), api.ErrUnknown})
	}
	return l
}

// wrongMirrors are mirrors that are none in the grid wide, in a field at the tick 10.
func wrongMirrors() []wrong[beam.Mirror] {
	l := []wrong[beam.Mirror]{
		{mirror(held, -1, 11), api.ErrHeld}, {mirror(held, 1, 9, 0), api.ErrHeld}, {mirror(held, 1, 9, make([]int, 41)...), api.ErrHeld},
		{mirror(0, 4, 9, make([]int, 41)...), api.ErrMany}, {mirror(0, -1, 11, slices.Repeat(ints(9), 41)...), api.ErrMany}, {mirror(0, 4, 9, slices.Repeat(ints(1, 0), 50000)...), api.ErrMany},
		{mirror(0, 1, 9, 0), api.ErrRule}, {mirror(0, 1, 9, 2), api.ErrRule}, {mirror(0, 1, 9, held), api.ErrRule}, {mirror(0, 99, 11, 3), api.ErrRule}, {mirror(0, 4, 9, 1, 1), api.ErrRule}, {mirror(0, 4, 9, 1, 0, 2), api.ErrRule}, {mirror(0, 4, 9, 1, 2, held), api.ErrRule}, {mirror(0, 4, 9, 2, 9), api.ErrRule}, {mirror(alone, 1, 9, 1), api.ErrRule}, {mirror(0, 4, 9, append(slices.Repeat(ints(1, 0), 19), 1, 1)...), api.ErrRule},
		{mirror(alone, 0, 9), api.ErrNone}, {mirror(alone, 0, 10), api.ErrNone},
	}
	for _, name := range wrongNames() {
		l = append(l, wrong[beam.Mirror]{named(name, "n", mirror(0, 0, 9)), api.ErrName}, wrong[beam.Mirror]{named(name, "", mirror(9, 9, 11, 9)), api.ErrName}, wrong[beam.Mirror]{named("m", name, mirror(0, 0, 9)), api.ErrName}, wrong[beam.Mirror]{named("m", name, mirror(9, 9, 11, 9)), api.ErrName})
	}
	for _, n := range expect.Outside(0, 5) {
		l = append(l, wrong[beam.Mirror]{mirror(n, 0, 9), api.ErrUnknown}, wrong[beam.Mirror]{mirror(n, -1, 11, make([]int, 41)...), api.ErrUnknown}, wrong[beam.Mirror]{mirror(0, 1, 9, n), api.ErrUnknown}, wrong[beam.Mirror]{mirror(0, 9, 11, 1, n, 1), api.ErrUnknown})
	}
	for _, n := range expect.Outside(0, 0) {
		l = append(l, wrong[beam.Mirror]{mirror(0, n, 9), api.ErrRange}, wrong[beam.Mirror]{mirror(alone, n, 9), api.ErrRange})
	}
	for _, n := range expect.Outside(1, 4) {
		l = append(l, wrong[beam.Mirror]{mirror(0, n, 9, 1), api.ErrRange}, wrong[beam.Mirror]{mirror(1, n, 9, 0, 1, 3), api.ErrRange})
	}
	for _, n := range expect.Outside(0, 10) {
		l = append(l, wrong[beam.Mirror]{mirror(0, 0, n), api.ErrRange}, wrong[beam.Mirror]{mirror(0, 4, n, 1, 3), api.ErrRange}, wrong[beam.Mirror]{mirror(alone, 0, n), api.ErrRange})
	}
	return l
}

// wrongFields are fields that are none in the grid wide.
func wrongFields() []wrong[beam.Field] {
	bad, right := mirror(9, 0, 9), named("a", "n", mirror(0, 4, 10, 1, 3))
	l := []wrong[beam.Field]{
		{field(10, standing(17)...), api.ErrMany}, {field(10, make([]beam.Mirror, 17)...), api.ErrMany}, {field(10, make([]beam.Mirror, 1000)...), api.ErrMany},
		{field(10, right, right), api.ErrTwice}, {field(10, mirror(0, 0, 9), right, mirror(1, 0, 9)), api.ErrTwice}, {field(10, mirror(0, 0, 9), named("m", "", bad)), api.ErrTwice}, {field(10, append(standing(15), named("m0", "n", bad))...), api.ErrTwice}, {field(10, right, right, bad), api.ErrTwice},
	}
	for _, n := range expect.Outside(0, 10000000) {
		l = append(l, wrong[beam.Field]{field(n), api.ErrRange}, wrong[beam.Field]{beam.Field{Tick: n, Lease: 0, Mirrors: make([]beam.Mirror, 17)}, api.ErrRange})
	}
	for _, n := range expect.Outside(1, 100) {
		l = append(l, wrong[beam.Field]{beam.Field{Tick: 10, Lease: n}, api.ErrRange}, wrong[beam.Field]{beam.Field{Tick: 10, Lease: n, Mirrors: make([]beam.Mirror, 17)}, api.ErrRange})
	}
	for _, x := range wrongMirrors() {
		l = append(l, wrong[beam.Field]{field(10, x.x), x.e}, wrong[beam.Field]{field(10, right, x.x, right, named("", "", bad)), x.e}, wrong[beam.Field]{field(10, right, x.x, x.x), x.e})
	}
	return l
}

// wrongOrders are orders that nobody hears in the field day of the grid wide.
func wrongOrders() []wrong[beam.Order] {
	var l []wrong[beam.Order]
	for _, o := range []beam.Order{{}, order("x", "s"), order("", "s"), order("f", "m"), order("M", "s"), order("mm", "s"), order("x", "u"), order("x", "p"), order("m", "x"), order("m", ""), order("m", "m"), order("m", "S"), order("m", "n"), order("x", "x"), order("\xff", "\xff")} {
		l = append(l, wrong[beam.Order]{o, api.ErrUnknown}, wrong[beam.Order]{lost(o), api.ErrUnknown})
	}
	for _, name := range []string{"m", "k", "l"} {
		l = append(l, wrong[beam.Order]{order(name, "u"), api.ErrHeld}, wrong[beam.Order]{lost(order(name, "u")), api.ErrHeld}, wrong[beam.Order]{order(name, "p"), api.ErrNone}, wrong[beam.Order]{lost(order(name, "p")), api.ErrNone})
	}
	return l
}

func wrongRounds() []wrong[[][]beam.Order] {
	return []wrong[[][]beam.Order]{{make([][]beam.Order, 257), api.ErrMany}, {make([][]beam.Order, 100000), api.ErrMany}}
}

func wrongTaken() []wrong[string] {
	var l []wrong[string]
	for _, name := range append(wrongNames(), "x", "M", "mm", "n", "f") {
		l = append(l, wrong[string]{name, api.ErrUnknown})
	}
	return append(l, wrong[string]{"m", api.ErrState}, wrong[string]{"k", api.ErrState})
}

func wrongSectors() []wrong[string] {
	var l []wrong[string]
	for _, name := range wrongNames() {
		l = append(l, wrong[string]{name, api.ErrName})
	}
	for _, name := range []string{"x", "m", "N", "nn", "a", "abcdefghijklmnopqrstuvwx"} {
		l = append(l, wrong[string]{name, api.ErrUnknown})
	}
	return l
}

// wrongNew are mirrors that cannot join the field day of the grid wide.
func wrongNew() []wrong[beam.Mirror] {
	l := []wrong[beam.Mirror]{
		{named("x", "n", mirror(0, 0, 9)), api.ErrState}, {named("", "", mirror(0, 9, 11)), api.ErrState}, {named("x", "n", mirror(1, 3, 9, 2)), api.ErrState}, {named("x", "n", mirror(0, 4, 9, 1)), api.ErrState}, {named("m", "", mirror(1, 0, 11, 9)), api.ErrState}, {named("x", "n", mirror(held, 0, 9, 1)), api.ErrState}, {named("x", "n", mirror(1, 0, 9, make([]int, 41)...)), api.ErrState},
		{mirror(1, 0, 9), api.ErrTwice}, {named("l", "", mirror(held, 9, 11)), api.ErrTwice}, {named("x", "n", mirror(held, 9, 11)), api.ErrHeld}, {named("x", "n", mirror(alone, 0, 9)), api.ErrNone}, {named("x", "n", mirror(alone, 1, 9)), api.ErrRange},
	}
	for _, name := range wrongNames() {
		l = append(l, wrong[beam.Mirror]{named(name, "", mirror(1, 9, 11)), api.ErrName}, wrong[beam.Mirror]{named("x", name, mirror(held, 9, 11)), api.ErrName})
	}
	for _, n := range expect.Outside(0, 5) {
		l = append(l, wrong[beam.Mirror]{named("x", "n", mirror(n, 0, 9)), api.ErrUnknown}, wrong[beam.Mirror]{named("", "", mirror(n, 9, 11, 9)), api.ErrUnknown})
	}
	for _, n := range expect.Outside(0, 0) {
		l = append(l, wrong[beam.Mirror]{named("x", "n", mirror(3, n, 10)), api.ErrRange})
	}
	for _, n := range expect.Outside(0, 10) {
		l = append(l, wrong[beam.Mirror]{named("x", "n", mirror(3, 0, n)), api.ErrRange})
	}
	return l
}

// arguments are what the functions of the package take.
type arguments struct {
	g        beam.Grid
	z        beam.Zone
	blur     int
	line     [2]api.Point
	from, to int
	way, set []int
	f        beam.Field
	o        beam.Order
	rounds   [][]beam.Order
	m        beam.Mirror
	name     string
	sector   string
}

// rightArguments returns arguments without an error, but that Barrier finds a way.
func rightArguments() arguments {
	return arguments{
		g: wide(), z: zone("bird", 500, 400, 20), blur: 5, line: [2]api.Point{at(500, 500), at(500, 300)}, from: 0, to: 3, way: ints(0, 1, 2, 3), set: ints(0, 1, 2, 3, held),
		f: day(), o: order("m", "s"), rounds: [][]beam.Order{{order("m", "s"), order("x", "s")}, nil, {order("l", "f")}}, m: named("x", "n", mirror(3, 0, 10)), name: "l", sector: "n",
	}
}

// fault makes an argument wrong, which gives an error.
type fault = expect.Fault[arguments]

func faultsOf[T any](l []wrong[T], put func(a *arguments, x T)) []fault {
	var faults []fault
	for _, x := range l {
		faults = append(faults, fault{Spoil: func(a *arguments) { put(a, x.x) }, Err: x.e})
	}
	return faults
}

// faults returns the faults of each argument.
func faults() map[string][]fault {
	return map[string][]fault{
		"grid":   faultsOf(wrongGrids(), func(a *arguments, x beam.Grid) { a.g = x }),
		"zone":   faultsOf(wrongZones(), func(a *arguments, x beam.Zone) { a.z = x }),
		"blur":   faultsOf(wrongBlurs(), func(a *arguments, x int) { a.blur = x }),
		"line":   faultsOf(wrongLines(), func(a *arguments, x [2]api.Point) { a.line = x }),
		"from":   faultsOf(wrongIndices(), func(a *arguments, x int) { a.from = x }),
		"to":     faultsOf(wrongIndices(), func(a *arguments, x int) { a.to = x }),
		"way":    faultsOf(wrongWays(), func(a *arguments, x []int) { a.way = x }),
		"set":    faultsOf(wrongSets(), func(a *arguments, x []int) { a.set = x }),
		"field":  faultsOf(wrongFields(), func(a *arguments, x beam.Field) { a.f = x }),
		"order":  faultsOf(wrongOrders(), func(a *arguments, x beam.Order) { a.o = x }),
		"rounds": faultsOf(wrongRounds(), func(a *arguments, x [][]beam.Order) { a.rounds = x }),
		"new":    faultsOf(wrongNew(), func(a *arguments, x beam.Mirror) { a.m = x }),
		"name":   faultsOf(wrongTaken(), func(a *arguments, x string) { a.name = x }),
		"sector": faultsOf(wrongSectors(), func(a *arguments, x string) { a.sector = x }),
	}
}

func calls() []expect.Call[arguments] {
	grid, field := []string{"grid"}, []string{"grid", "field"}
	pair := []string{"grid", "from", "to"}
	with := func(last string) []string { return append(slices.Clone(field), last) }
	return []expect.Call[arguments]{
		{What: "CheckGrid", Takes: grid, Do: func(a arguments) ([]any, api.Errno) { return expect.None(beam.CheckGrid(a.g)) }},
		{What: "Touches", Takes: []string{"zone", "blur", "line"}, Do: func(a arguments) ([]any, api.Errno) { return expect.One(beam.Touches(a.z, a.blur, a.line)) }},
		{What: "SafeMoves", Takes: grid, Do: func(a arguments) ([]any, api.Errno) { return expect.One(beam.SafeMoves(a.g)) }},
		{What: "Reached", Takes: pair[:2], Do: func(a arguments) ([]any, api.Errno) { return expect.One(beam.Reached(a.g, a.from)) }},
		{What: "Way", Takes: pair, Do: func(a arguments) ([]any, api.Errno) { return expect.Two(beam.Way(a.g, a.from, a.to)) }},
		{What: "Steps", Takes: []string{"grid", "way"}, Do: func(a arguments) ([]any, api.Errno) { return expect.One(beam.Steps(a.g, a.way)) }},
		{What: "Barrier", Takes: pair, Err: api.ErrRule, Do: func(a arguments) ([]any, api.Errno) { return expect.One(beam.Barrier(a.g, a.from, a.to)) }},
		{What: "CheckBarrier", Takes: append(slices.Clone(pair), "set"), Err: api.ErrProof, Do: func(a arguments) ([]any, api.Errno) { return expect.None(beam.CheckBarrier(a.g, a.from, a.to, a.set)) }},
		{What: "Homes", Takes: grid, Do: func(a arguments) ([]any, api.Errno) { return expect.One(beam.Homes(a.g)) }},
		{What: "CheckField", Takes: field, Do: func(a arguments) ([]any, api.Errno) { return expect.None(beam.CheckField(a.g, a.f)) }},
		{What: "Heard", Takes: with("order"), Do: func(a arguments) ([]any, api.Errno) { return expect.One(beam.Heard(a.g, a.f, a.o)) }},
		{What: "Stepped", Takes: field, Do: func(a arguments) ([]any, api.Errno) { return expect.One(beam.Stepped(a.g, a.f)) }},
		{What: "Run", Takes: with("rounds"), Do: func(a arguments) ([]any, api.Errno) { return expect.One(beam.Run(a.g, a.f, a.rounds)) }},
		{What: "Deadline", Takes: field, Do: func(a arguments) ([]any, api.Errno) { return expect.One(beam.Deadline(a.g, a.f)) }},
		{What: "Lit", Takes: field, Do: func(a arguments) ([]any, api.Errno) { return expect.One(beam.Lit(a.g, a.f)) }},
		{What: "Dark", Takes: field, Do: func(a arguments) ([]any, api.Errno) { return expect.One(beam.Dark(a.g, a.f)) }},
		{What: "Joined", Takes: with("new"), Do: func(a arguments) ([]any, api.Errno) { return expect.One(beam.Joined(a.g, a.f, a.m)) }},
		{What: "Taken", Takes: with("name"), Do: func(a arguments) ([]any, api.Errno) { return expect.One(beam.Taken(a.g, a.f, a.name)) }},
		{What: "Sector", Takes: with("sector"), Do: func(a arguments) ([]any, api.Errno) { return expect.One(beam.Sector(a.g, a.f, a.sector)) }},
		{What: "Defocused", Takes: with("sector"), Do: func(a arguments) ([]any, api.Errno) { return expect.One(beam.Defocused(a.g, a.f, a.sector)) }},
		{What: "Print", Takes: grid, Do: func(a arguments) ([]any, api.Errno) { return expect.One(beam.Print(a.g)) }},
	}
}

// isNothing reports whether all results are their zero values, where an empty list is one.
func isNothing(results []any) bool {
	for _, x := range results {
		v := reflect.ValueOf(x)
		if !v.IsZero() && (v.Kind() != reflect.Slice || v.Len() > 0) {
			return false
		}
	}
	return true
}

// between returns a number from low to high.
func between(r *rand.Rand, low, high int) int { return low + r.Intn(high-low+1) }

// randomGrid returns a grid of n stations near to each other, and to some zones.
func randomGrid(r *rand.Rand, n int) beam.Grid {
	kinds := []string{"focus", "standby", "stow", "focus"}
	g := beam.Grid{Blur: r.Intn(3)}
	for i := range n {
		g.Stations = append(g.Stations, station("s"+strconv.Itoa(i), kinds[r.Intn(4)], r.Intn(40), r.Intn(40)))
	}
	for i := range r.Intn(4) {
		g.Zones = append(g.Zones, zone("z"+strconv.Itoa(i), r.Intn(40), r.Intn(40), r.Intn(6)))
	}
	dense := between(r, 1, 4)
	for from := range n {
		for to := from + 1; to < n; to++ {
			if r.Intn(4) < dense && len(g.Moves) < 40 {
				g.Moves = append(g.Moves, move(from, to, between(r, 1, []int{3, 20}[r.Intn(2)])))
			}
		}
	}
	r.Shuffle(len(g.Moves), func(i, k int) { g.Moves[i], g.Moves[k] = g.Moves[k], g.Moves[i] })
	return g
}

// randomField returns a field of up to n mirrors in a grid, which are where they may be.
func randomField(r *rand.Rand, g net, n int) beam.Field {
	f := beam.Field{Tick: between(r, 0, 30), Lease: between(r, 1, 12)}
	var starts []int
	isHome := func(station int) bool { return g.safe[station] && g.Stations[station].Kind == "standby" }
	for i := range g.Stations {
		if g.safe[i] && slices.ContainsFunc(reached(g, i), isHome) {
			starts = append(starts, i)
		}
	}
	if len(starts) == 0 {
		return f
	}
	for i := range n {
		m := beam.Mirror{Name: "m" + strconv.Itoa(i), Sector: []string{"n", "w"}[r.Intn(2)], At: starts[r.Intn(len(starts))], Heard: between(r, 0, f.Tick)}
		m.Way = randomWalk(r, g, m.At, r.Intn(6))
		if len(m.Way) > 0 {
			m.Left = between(r, 1, stepsBetween(g, m.At, m.Way[0]))
		}
		f.Mirrors = append(f.Mirrors, m)
	}
	return f
}

// randomWalk returns up to n stations to which safe moves lead, one after the other, from a station on.
func randomWalk(r *rand.Rand, g net, from, n int) []int {
	var l []int
	for range n {
		next := neighbours(g, from)
		if len(next) == 0 {
			return l
		}
		from = next[r.Intn(len(next))]
		l = append(l, from)
	}
	return l
}

// randomOrders returns n orders, of which some have an error, some are lost, and some are repeated at once.
func randomOrders(r *rand.Rand, g net, n int) []beam.Order {
	var l []beam.Order
	for i := range n {
		if i > 0 && r.Intn(4) == 0 {
			l = append(l, l[i-1])
			continue
		}
		l = append(l, beam.Order{Mirror: "m" + strconv.Itoa(r.Intn(5)), Station: "s" + strconv.Itoa(r.Intn(len(g.Stations)+1)), Lost: r.Intn(3) == 0})
	}
	return l
}
