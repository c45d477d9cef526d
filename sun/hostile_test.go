package sun_test

import (
	"math"
	"strings"
	"testing"

	"spillage/api"
	"spillage/expect"
	"spillage/sun"
)

// P1: no function panics, for whatever arguments; each result depends on them alone.

func hostileNumbers() []int {
	return []int{math.MinInt, math.MinInt + 1, -1 << 32, -1<<20 - 1, -1 << 20, -4097, -4096, -257, -256, -1, 0, 1, 2, 256, 257, 4096, 4097, 1 << 20, 1<<20 + 1, 1 << 31, math.MaxInt - 1, math.MaxInt}
}

func hostileVectors() []api.Vector {
	var l []api.Vector
	for _, a := range hostileNumbers() {
		l = append(l, vec(a, 0, 0), vec(0, a, 0), vec(0, 0, a), vec(a, a, a), vec(a, -a, 1), vec(1, a, -a), vec(-1, -1, a))
	}
	return l
}

func TestNoPanicOfVectors(t *testing.T) {
	l := hostileVectors()
	for i, a := range l {
		sun.CheckRay(a)
		sun.Reduced(a)
		sun.Length(a)
		sun.Frame(a)
		for k, b := range l {
			sun.Same(a, b)
			sun.Normal(a, b)
			sun.Reflected(a, b)
			sun.Cosine(a, b)
			other := l[(i+7*k)%len(l)]
			sun.Hit(a, b, other, b)
			sun.Hit(other, a, b, a)
			for _, c := range []sun.Cone{cone(other, 0, 1), cone(a, 1, 2), cone(b, 100, 100), upwards(1, 2)} {
				sun.Inside(c, b)
				sun.Meets(c, a, b)
				sun.Meets(c, b, other)
			}
		}
		for _, air := range hostileAirs() {
			sun.Bent(air, a)
			sun.Unbent(air, a)
		}
	}
}

func hostileAirs() [][]sun.Step {
	l := [][]sun.Step{nil, air(), make([]sun.Step, 1000)}
	for _, a := range hostileNumbers() {
		l = append(l, steps([2]int{a, a}), steps([2]int{0, a}, [2]int{a, 0}), steps([2]int{-100000, 16}, [2]int{a, 0}))
	}
	return l
}

func TestNoPanicOfNumbers(t *testing.T) {
	for _, a := range hostileNumbers() {
		sun.Whole([4]int{a, a, a, a})
		for _, b := range hostileNumbers() {
			sun.Whole([4]int{a, 0, b, 1})
			sun.CheckCone(upwards(a, b))
			sun.Inside(upwards(a, b), vec(1, 1, 1))
			sun.Meets(upwards(a, b), vec(1, 1, 1), vec(1, -1, 1))
		}
	}
	for _, l := range hostileAirs() {
		sun.CheckAir(l)
	}
}

func TestNoPanicOfSkies(t *testing.T) {
	l := []sun.Sky{{}, day(), turning(), {Name: strings.Repeat("x", 1000000)}, many(64, 200), many(1000, 1)}
	for _, a := range hostileNumbers() {
		for _, b := range hostileNumbers() {
			l = append(l, sky(told(a, 1, 0, 0), told(b, 0, 1, 0)), sky(told(1, a, b, 0), told(2, b, 0, a)))
		}
	}
	for _, s := range l {
		sun.CheckSky(s)
		sun.Daylight(s)
		sun.Highest(s)
		sun.Print(s)
		for _, tick := range hostileNumbers() {
			sun.At(s, tick)
			sun.Risen(s, tick)
		}
	}
}

func TestNoPanicOfTexts(t *testing.T) {
	for _, s := range []string{
		"", "\n", " ", "sky", "sky\n", "sky \n", "sun\n", "sky s\nsun\n", "sky s\nsun 0 0 0 0\nsun 1 0 0 0\n", "\xff\xfe", "sky \xff\n", "sky s\nsun 999999999 999999999 999999999 999999999\nsun -999999999 -999999999 -999999999 -999999999\n",
		strings.Repeat("\n", 4096), strings.Repeat(" ", 4096), strings.Repeat("sky s\n", 682), "sky s\n" + strings.Repeat("sun 0 1 1 1\n", 340), strings.Repeat("x", 1000000), "sky s\nsun" + strings.Repeat(" 1", 2000) + "\n",
	} {
		sun.Parse(s)
	}
}

// TestResultsAreTheSameAgain checks calls whose results could depend on more than their arguments.
func TestResultsAreTheSameAgain(t *testing.T) {
	for range 50 {
		s, index, e := sun.Parse("sky s\nsun 0 x 0 0\n")
		if !sameSky(s, sun.Sky{}) || index != 1 || e != api.ErrSyntax {
			t.Fatal("Parse changes its result")
		}
		f, e := sun.Frame(vec(0, 0, 5))
		expect.Result(t, "Frame", f, e, [2]api.Vector{vec(1, 0, 0), vec(0, 1, 0)}, api.OK)
		f[0], f[1] = vec(9, 9, 9), vec(9, 9, 9)
		l, e := sun.Unbent(air(), vec(16, 0, 17))
		expect.List(t, "Unbent", l, e, []api.Vector{vec(16, 0, 15), vec(16, 0, 17)}, api.OK)
		l[0] = vec(9, 9, 9)
	}
}
