package cloud_test

import (
	"math/rand"
	"slices"
	"testing"

	"spillage/api"
	"spillage/cloud"
	"spillage/expect"
)

// P7.5

func TestCross(t *testing.T) {
	for _, x := range []struct {
		a, b [2]api.Point
		is   bool
	}{
		{line(0, 0, 4, 4), line(0, 4, 4, 0), true}, {line(0, 0, 2, 0), line(2, 0, 5, 5), true}, {line(0, 0, 2, 0), line(3, 0, 4, 0), false}, {line(0, 0, 3, 0), line(1, 0, 9, 0), true}, {line(0, 0, 2, 0), line(2, 0, 4, 0), true}, {line(0, 0, 9, 0), line(2, 0, 4, 0), true}, {line(0, 0, 9, 0), line(0, 1, 9, 1), false}, {line(0, 0, 4, 0), line(2, 1, 2, 5), false}, {line(0, 0, 4, 0), line(2, 0, 2, 5), true}, {line(0, 0, 4, 0), line(2, -1, 2, 5), true}, {line(0, 0, 4, 0), line(5, -1, 5, 5), false}, {line(0, 0, 4, 0), line(5, 0, 5, 5), false}, {line(0, 0, 4, 4), line(5, 5, 9, 9), false}, {line(0, 0, 4, 4), line(4, 4, 9, 9), true}, {line(0, 0, 4, 4), line(3, 3, 9, 9), true}, {line(0, 0, 4, 4), line(1, 0, 5, 4), false}, {line(0, 0, 4, 4), line(3, 2, 4, 1), false}, {line(0, 0, 4, 4), line(1, 3, 2, 2), true}, {line(0, 0, 4, 4), line(1, 3, 0, 4), false}, {line(0, 0, 10, 10), line(6, 4, 9, 0), false},
		{line(0, 0, 4, 0), line(2, 0, 2, 0), true}, {line(0, 0, 4, 0), line(5, 0, 5, 0), false}, {line(0, 0, 4, 0), line(2, 1, 2, 1), false}, {line(0, 0, 4, 2), line(2, 1, 2, 1), true}, {line(0, 0, 4, 2), line(1, 1, 1, 1), false}, {line(0, 0, 4, 2), line(6, 3, 6, 3), false}, {line(1, 1, 1, 1), line(1, 1, 1, 1), true}, {line(1, 1, 1, 1), line(1, 2, 1, 2), false}, {line(1, 1, 1, 1), line(2, 1, 2, 1), false},
		{line(-100000, -100000, 100000, 100000), line(-100000, 100000, 100000, -100000), true}, {line(-100000, -100000, 100000, 99999), line(0, 0, 0, 0), false}, {line(-100000, -100000, 100000, 99999), line(0, -1, 0, 0), true}, {line(-100000, -100000, 100000, 99999), line(1, 0, 99999, 99998), false}, {line(-100000, -100000, 100000, 99999), line(1, 0, 99999, 99999), true}, {line(-100000, -100000, 100000, 99999), line(0, 0, 99999, 99999), false},
	} {
		for range 2 {
			for range 2 {
				is, e := cloud.Cross(x.a, x.b)
				if is != x.is || e != api.OK {
					t.Errorf("Cross %v %v: %v, error %d", x.a, x.b, is, e)
				}
				x.a, x.b = x.b, x.a
			}
			slices.Reverse(x.a[:])
		}
	}
}

func TestCrossOfRandomSegments(t *testing.T) {
	rnd := rand.New(rand.NewSource(14))
	counts := map[bool]int{}
	for range 40000 {
		reach := pick(rnd, 1, 2, 4, 9, 100000)
		a, b := randomLine(rnd, reach), randomLine(rnd, reach)
		wanted := doCross(a, b)
		counts[wanted]++
		if is, e := cloud.Cross(a, b); is != wanted || e != api.OK {
			t.Fatalf("Cross %v %v: %v, error %d, want %v", a, b, is, e, wanted)
		}
	}
	if counts[true] < 10000 || counts[false] < 10000 {
		t.Errorf("the counts are %v", counts)
	}
}

func TestAlarms(t *testing.T) {
	track := points(0, 0, 5, 0, 5, 5)
	lines := func(l ...[2]api.Point) [][2]api.Point { return l }
	for _, x := range []struct {
		track []api.Point
		beams [][2]api.Point
		l     []int
	}{
		{track, lines(line(3, -1, 3, 1), line(4, 4, 6, 4), line(0, 2, 4, 2)), []int{0, 1}}, {track, lines(line(0, 2, 4, 2), line(4, 4, 6, 4), line(3, -1, 3, 1)), []int{1, 2}}, {track, nil, nil}, {track, lines(line(0, 1, 4, 5)), nil}, {track, lines(line(0, 5, 4, 5)), nil},
		{track, lines(line(4, -1, 6, 1)), []int{0}}, {track, lines(line(-1, -1, 9, 5), line(-1, -1, 6, 6)), []int{0, 1}}, {track, lines(line(5, 0, 5, 0), line(5, 6, 5, 6), line(5, 5, 9, 9), line(0, 0, 0, 0), line(-1, 0, -1, 0), line(-3, 0, 0, 0)), []int{0, 2, 3, 5}}, {points(0, 0, 0, 0), lines(line(0, 0, 0, 0), line(-1, -1, 1, 1), line(0, 1, 1, 1)), []int{0, 1}}, {points(0, 0, 9, 9, 0, 0), lines(line(0, 9, 9, 0), line(0, 9, 9, 10)), []int{0}},
		// no segment leads from the last point to the first one
		{points(0, 0, 9, 0, 9, 9), lines(line(0, 5, 5, 3)), nil}, {points(0, 0, 9, 0), lines(line(4, -1, 4, 1), line(4, 1, 4, 2)), []int{0}},
	} {
		l, e := cloud.Alarms(x.track, x.beams)
		expect.List(t, "Alarms", l, e, x.l, api.OK)
	}
	long := append(make([]api.Point, 63), at(100000, 100000))
	l, e := cloud.Alarms(long, append(slices.Repeat(lines(line(0, 1, -1, 2)), 255), line(99999, 100000, 100000, 99999)))
	expect.List(t, "Alarms of the most beams", l, e, []int{255}, api.OK)
	l, e = cloud.Alarms(long, slices.Repeat(lines(line(0, 0, 0, 5)), 256))
	if len(l) != 256 || !slices.IsSorted(l) || e != api.OK {
		t.Errorf("the most alarms are %v, error %d", l, e)
	}
}

func TestAlarmsOfRandomTracks(t *testing.T) {
	rnd := rand.New(rand.NewSource(15))
	counts := map[int]int{}
	for range 2000 {
		track := randomPoints(rnd, between(rnd, 2, 5), 6)
		var beams [][2]api.Point
		var wanted []int
		for i := range rnd.Intn(6) {
			beam := randomLine(rnd, 6)
			beams = append(beams, beam)
			met := false
			for k := range len(track) - 1 {
				met = met || doCross([2]api.Point{track[k], track[k+1]}, beam)
			}
			if met {
				wanted = append(wanted, i)
			}
		}
		l, e := cloud.Alarms(track, beams)
		expect.List(t, "Alarms", l, e, wanted, api.OK)
		counts[len(beams)-len(wanted)]++
	}
	if counts[0] < 200 || counts[2] < 200 {
		t.Errorf("the counts are %v", counts)
	}
}
