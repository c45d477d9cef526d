package light_test

import (
	"math"
	"slices"
	"strings"
	"testing"

	"spillage/api"
	"spillage/light"
)

// P1: no function panics, for whatever arguments; each result depends on them alone.

func hostileNumbers() []int {
	return []int{math.MinInt, math.MinInt + 1, -1 << 32, -65, -1, 0, 1, 2, 64, 65, 256, 1 << 31, 1<<32 + 1, math.MaxInt - 1, math.MaxInt}
}

func hostileFloats() []float32 {
	return []float32{0, minusZero(), 1, -1, 1024, -1024, 0.0625, 5000, math.MaxFloat32, math.SmallestNonzeroFloat32, nan(), inf(1), inf(-1)}
}

func hostileMaps() []light.Map {
	l := []light.Map{six(), flat(64, 64, 1024), flat(64, 64, -1024), {Width: 2, Height: 2}, {Samples: make([]float32, 10000)}}
	for _, x := range wrongMaps() {
		l = append(l, x.m)
	}
	for _, a := range hostileNumbers() {
		for _, b := range []int{math.MinInt, -1, 0, 1, 2, math.MaxInt} {
			l = append(l, light.Map{Width: a, Height: b, Samples: []float32{1, 2}}, light.Map{Width: b, Height: a, Samples: hostileFloats()})
		}
	}
	return l
}

func TestNoPanicOfNumbers(t *testing.T) {
	for _, a := range hostileNumbers() {
		for _, b := range hostileNumbers() {
			light.Draw(a, b)
			light.CheckRatio(api.Ratio{Num: a, Den: b})
			light.CheckVector(api.Vector{X: a, Y: b, Z: a})
			light.CheckDirection(api.Vector{X: a, Y: b, Z: b})
			x := light.Telegram{Station: a, Counter: b, Order: a, Vector: api.Vector{X: b, Y: a, Z: b}}
			light.Encode(x)
			light.Lost([]light.Telegram{x, {Counter: a}, {Station: b}}, a)
		}
		light.Lost(make([]light.Telegram, 10000), a)
	}
}

func TestNoPanicOfMaps(t *testing.T) {
	for _, m := range hostileMaps() {
		light.CheckMap(m)
		light.Total(m)
		light.Peak(m)
		light.Flipped(m)
		light.Turned(m)
		light.Added(m, six())
		light.Added(six(), m)
		light.Pack(m)
		light.Print(m)
		for _, a := range hostileNumbers() {
			light.At(m, at(a, 0))
			light.At(m, at(0, a))
			light.Part(m, span(a, 1), span(0, a))
			light.Part(m, span(0, 1), span(a, a))
			light.Placed(m, a, 64, at(0, a))
			light.Placed(m, 64, 64, at(a, a))
			light.Scaled(m, a, 1)
			light.Scaled(m, 1, a)
			light.Spread(m, a)
			light.Binned(m, a)
		}
	}
}

func TestNoPanicOfPanels(t *testing.T) {
	for _, a := range hostileFloats() {
		light.CheckSample(a)
		for _, b := range hostileFloats() {
			light.Four([4]float32{a, b, b, a})
			light.Unfour([4]complex64{complex(a, b), complex(b, a), complex(b, b), complex(a, a)})
		}
	}
}

func TestNoPanicOfStrings(t *testing.T) {
	for _, s := range []string{
		"", "\n", "map", "LMAP", "LMAP\x00\x00", "LMAP\xff\xff", "LMAP\x01", "map 0 0\n", "map -1 -1\n", "map 1 1\nrow \n", "\xff\xfe", "map 999999999 999999999\n",
		strings.Repeat("M", 12288), strings.Repeat("M", 400001), strings.Repeat("\n", 1000001), strings.Repeat("map 1 1\n", 100000), "map 1 1\nrow" + strings.Repeat(" 1", 400000) + "\n",
	} {
		light.IsName(s)
		light.Received([]byte(s))
		light.Unpack([]byte(s))
		light.Parse(s)
		var f [24]byte
		copy(f[:], s)
		light.Decode(f)
	}
	light.Received(nil)
	light.Unpack(nil)
	light.Lost(nil, 0)
}

// TestResultsAreTheSameAgain checks calls whose results could depend on more than their arguments.
func TestResultsAreTheSameAgain(t *testing.T) {
	m, _, e := light.Parse("map 3 1\nrow 1 x 3\n")
	for range 50 {
		again, index, f := light.Parse("map 3 1\nrow 1 x 3\n")
		if !sameMap(m, again) || index != 1 || e != f {
			t.Fatal("Parse changes its result")
		}
	}
	first, _ := light.Draw(99, 256)
	changed := slices.Clone(first)
	slices.Reverse(first)
	second, _ := light.Draw(99, 256)
	if !slices.Equal(changed, second) {
		t.Fatal("Draw changes its result")
	}
	s, _ := light.Pack(six())
	before := slices.Clone(s)
	back, _ := light.Unpack(s)
	back.Samples[0] = 99
	if again, _ := light.Pack(six()); !slices.Equal(s, before) || !slices.Equal(s, again) {
		t.Fatal("Pack or Unpack shares memory")
	}
}
