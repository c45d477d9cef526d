package sun_test

import (
	"math/rand"
	"slices"
	"testing"

	"spillage/api"
	"spillage/expect"
	"spillage/sun"
)

// P2.5, and P3 of the whole document

func TestReflectedTwice(t *testing.T) {
	r := rand.New(rand.NewSource(13))
	for range 2000 {
		d, n := random(r, 10), random(r, 10)
		once, e := sun.Reflected(d, n)
		expect.Err(t, "Reflected", e, api.OK)
		twice, e := sun.Reflected(once, n)
		expect.Result(t, "Reflected twice", twice, e, divided(d), api.OK)
	}
}

func TestNormalReflectsEachToTheOther(t *testing.T) {
	r := rand.New(rand.NewSource(14))
	ok := right[api.Vector](t)
	for range 1000 {
		a, b, other := randomWhole(t, r, 3), randomWhole(t, r, 3), random(r, 8)
		n, e := sun.Normal(a, b)
		if e == api.ErrZero {
			continue
		}
		expect.Err(t, "Normal", e, api.OK)
		there, e := sun.Reflected(a, n)
		expect.Result(t, "Reflected at the normal", there, e, ok(sun.Reduced(b)), api.OK)
		back, e := sun.Reflected(b, n)
		expect.Result(t, "Reflected at the normal", back, e, ok(sun.Reduced(a)), api.OK)
		moved, e := sun.Reflected(other, n)
		if e != api.OK {
			continue
		}
		if before, after := signed(a, other), signed(there, moved); before.Cmp(after) != 0 {
			t.Fatalf("the normal %v changes the cosine of %v and %v from %v to %v", n, a, other, before, after)
		}
	}
}

func TestWholeVectorsAreWhole(t *testing.T) {
	r := rand.New(rand.NewSource(15))
	for i := range 3000 {
		l := [4]int{}
		for k := range l {
			l[k] = r.Intn(65) - 32
		}
		if i%4 == 0 {
			l[r.Intn(4)] = 32
		}
		if l == [4]int{} {
			continue
		}
		v, e := sun.Whole(l)
		expect.Err(t, "Whole", e, api.OK)
		n, e := sun.Length(v)
		expect.Result(t, "Length of a whole vector", n, e, l[0]*l[0]+l[1]*l[1]+l[2]*l[2]+l[3]*l[3], api.OK)
	}
}

func TestFramesAreAtRightAngles(t *testing.T) {
	r := rand.New(rand.NewSource(16))
	for i := range 1000 {
		n := random(r, []int{1, 5, 4096}[i%3])
		f, e := sun.Frame(n)
		expect.Err(t, "Frame", e, api.OK)
		if dot(n, f[0]) != 0 || dot(n, f[1]) != 0 || dot(f[0], f[1]) != 0 || f[0] == (api.Vector{}) || f[1] == (api.Vector{}) {
			t.Fatalf("the frame of %v is %v", n, f)
		}
	}
}

func TestConesWithLesserShares(t *testing.T) {
	r := rand.New(rand.NewSource(17))
	for range 1000 {
		axis, a, b, den := random(r, 6), random(r, 6), random(r, 6), 1+r.Intn(100)
		opposite := cross(a, b) == api.Vector{} && dot(a, b) < 0
		inside, met := true, true
		for num := range den + 1 {
			is := right[bool](t)(sun.Inside(cone(axis, num, den), a))
			if is && !inside {
				t.Fatalf("%v is inside of %v %d/%d, but not with lesser shares", a, axis, num, den)
			}
			inside = is
			if opposite {
				continue
			}
			meets := right[bool](t)(sun.Meets(cone(axis, num, den), a, b))
			back := right[bool](t)(sun.Meets(cone(axis, num, den), b, a))
			if meets && !met || meets != back || is && !meets {
				t.Fatalf("the way from %v to %v and %v %d/%d: %v, back %v", a, b, axis, num, den, meets, back)
			}
			met = meets
		}
	}
}

func TestAWayToAPlaceOnItMeetsNoMore(t *testing.T) {
	r := rand.New(rand.NewSource(18))
	checked := 0
	for range 4000 {
		axis, a, b, den := random(r, 6), random(r, 6), random(r, 6), 1+r.Intn(20)
		c := cone(axis, r.Intn(den+1), den)
		met, e := sun.Meets(c, a, b)
		if e != api.OK {
			continue
		}
		place := way(a, b, r.Intn(5), 1+r.Intn(5))
		for _, x := range []api.Vector{a, b} {
			part := right[bool](t)(sun.Meets(c, x, place))
			if part && !met {
				t.Fatalf("the way from %v to %v meets %v, and that from %v to %v does not", x, place, c, a, b)
			}
		}
		checked++
	}
	if checked < 3000 {
		t.Fatalf("only %d ways were checked", checked)
	}
}

func TestTheSunLiesBetweenToldOnes(t *testing.T) {
	r := rand.New(rand.NewSource(19))
	for range 300 {
		s := randomSky(r, 5)
		for i, b := range s.Suns[1:] {
			a := s.Suns[i]
			apart, normal := signed(a.Direction, b.Direction), cross(a.Direction, b.Direction)
			for tick := a.Tick; tick <= b.Tick; tick++ {
				v, e := sun.At(s, tick)
				if e == api.ErrNone {
					continue
				}
				expect.Err(t, "At", e, api.OK)
				if signed(v, a.Direction).Cmp(apart) < 0 || signed(v, b.Direction).Cmp(apart) < 0 {
					t.Fatalf("the sun %v at %d is farther from %v or %v than they are from one another", v, tick, a, b)
				}
				if dot(v, normal) != 0 || dot(cross(a.Direction, v), normal) < 0 || dot(cross(v, b.Direction), normal) < 0 {
					t.Fatalf("the sun %v at %d is not between %v and %v", v, tick, a, b)
				}
			}
		}
	}
}

func TestToldDirectionsAreTheSun(t *testing.T) {
	r := rand.New(rand.NewSource(20))
	for range 300 {
		s := randomSky(r, 4096)
		for _, x := range s.Suns {
			v, e := sun.At(s, x.Tick)
			expect.Result(t, "At a told tick", v, e, right[api.Vector](t)(sun.Reduced(x.Direction)), api.OK)
			is, e := sun.Risen(s, x.Tick)
			expect.Result(t, "Risen at a told tick", is, e, x.Direction.Z > 0, api.OK)
		}
		n := right[int](t)(sun.Highest(s))
		for i, x := range s.Suns {
			if z := s.Suns[n].Direction.Z; x.Direction.Z > z || i < n && x.Direction.Z == z {
				t.Fatalf("the highest sun of %v is %d", s, n)
			}
		}
	}
}

func TestARayIsAmongThoseOfItsBentRay(t *testing.T) {
	r := rand.New(rand.NewSource(21))
	checked := 0
	for range 3000 {
		l, v := randomAir(r), random(r, 12)
		b, e := sun.Bent(l, v)
		expect.Err(t, "Bent", e, api.OK)
		if !isRay(b) {
			continue
		}
		checked++
		all, e := sun.Unbent(l, b)
		expect.Err(t, "Unbent", e, api.OK)
		if !slices.Contains(all, right[api.Vector](t)(sun.Reduced(v))) {
			t.Fatalf("Unbent %v %v: %v, without %v", l, b, all, v)
		}
	}
	if checked < 2000 {
		t.Fatalf("only %d rays were checked", checked)
	}
}

func TestSkiesComeBack(t *testing.T) {
	r := rand.New(rand.NewSource(22))
	for range 300 {
		s := randomSky(r, 4096)
		text, e := sun.Print(s)
		expect.Err(t, "Print", e, api.OK)
		back, index, e := sun.Parse(text)
		if e != api.OK || index != 0 || !sameSky(back, s) {
			t.Fatalf("%v comes back as %v, line %d, error %d", s, back, index, e)
		}
		again, e := sun.Print(back)
		expect.Result(t, "Print", again, e, text, api.OK)
	}
}
