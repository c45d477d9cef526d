package drive_test

import (
	"math"
	"math/rand"
	"slices"
	"testing"

	"spillage/api"
	"spillage/drive"
	"spillage/expect"
)

// P3.2

func TestCheckSpots(t *testing.T) {
	for _, l := range [][]drive.Spot{{spot(0, 0, 0)}, {spot(-1000, -1000000, 1000000), spot(1000, 1000000, 1000000)}, {spot(5, 1, 2), spot(5, 1, 2)}, {spot(5, 1, 2), spot(4, 7, 9), spot(4, 1, 2)}, make([]drive.Spot, 16)} {
		expect.Err(t, "CheckSpots", drive.CheckSpots(l), api.OK)
	}
	for _, x := range wrongLists() {
		if e := drive.CheckSpots(x.x); e != x.e {
			t.Errorf("CheckSpots %.20v: error %d, want %d", x.x, e, x.e)
		}
	}
}

func TestCheckModel(t *testing.T) {
	for _, m := range [][]drive.Band{five(), model(band(0, 0, 0)), bands(64), model(band(-1000, -2000000, 2000000), band(-999, 0, 0), band(1000, 2000000, 2000000))} {
		expect.Err(t, "CheckModel", drive.CheckModel(m), api.OK)
	}
	for _, x := range wrongModels() {
		if e := drive.CheckModel(x.x); e != x.e {
			t.Errorf("CheckModel %.20v: error %d, want %d", x.x, e, x.e)
		}
	}
}

func TestFitted(t *testing.T) {
	seen := func(low, high int) []drive.Spot { return []drive.Spot{spot(0, 100, 104), spot(10, low, high)} }
	for _, x := range []struct {
		l     []drive.Spot
		gains api.Interval
		m     []drive.Band
	}{
		{seen(150, 152), at(4, 6), five()}, {seen(150, 152), at(5, 5), five()}, {seen(150, 152), at(-1000, 1000), five()}, {append(seen(150, 152), spot(4, 121, 130)), at(4, 6), model(band(5, 101, 102))}, {append(seen(150, 152), spot(4, 121, 130)), at(-1000, 1000), model(band(5, 101, 102))},
		{seen(140, 160), at(4, 6), model(band(4, 100, 104), band(5, 100, 104), band(6, 100, 100))}, {seen(140, 160), at(-9, 9), model(band(4, 100, 104), band(5, 100, 104), band(6, 100, 100))}, {seen(140, 160), at(6, 9), model(band(6, 100, 100))}, {seen(140, 160), at(3, 4), model(band(4, 100, 104))},
		{[]drive.Spot{spot(0, 7, 9)}, at(-1, 1), model(band(-1, 7, 9), band(0, 7, 9), band(1, 7, 9))}, {[]drive.Spot{spot(-3, 7, 9)}, at(-1, 1), model(band(-1, 4, 6), band(0, 7, 9), band(1, 10, 12))},
		{[]drive.Spot{spot(-10, 50, 50), spot(10, 10, 10)}, at(-1000, 1000), model(band(-2, 30, 30))}, {[]drive.Spot{spot(-10, 50, 50), spot(10, 10, 10), spot(-10, 50, 50)}, at(-2, -2), model(band(-2, 30, 30))},
		{[]drive.Spot{spot(1000, -1000000, -1000000)}, at(1000, 1000), model(band(1000, -2000000, -2000000))}, {[]drive.Spot{spot(1000, 1000000, 1000000)}, at(-1000, -1000), model(band(-1000, 2000000, 2000000))}, {[]drive.Spot{spot(-1000, -1000000, 1000000)}, at(999, 1000), model(band(999, -1000, 1999000), band(1000, 0, 2000000))},
		{slices.Repeat(seen(150, 152), 8), at(0, 9), five()},
	} {
		m, e := drive.Fitted(x.l, x.gains)
		expect.List(t, "Fitted", m, e, x.m, api.OK)
	}
}

func TestFittedWithErrors(t *testing.T) {
	all := []drive.Spot{spot(0, 100, 104)}
	for _, x := range []struct {
		l     []drive.Spot
		gains api.Interval
		e     api.Errno
	}{
		{[]drive.Spot{spot(0, 100, 104), spot(10, 150, 152)}, at(6, 9), api.ErrInfeasible}, {[]drive.Spot{spot(0, 100, 104), spot(10, 150, 152)}, at(-1000, 4), api.ErrInfeasible}, {[]drive.Spot{spot(0, 0, 1), spot(0, 2, 3)}, at(-1000, 1000), api.ErrInfeasible}, {[]drive.Spot{spot(0, 0, 0), spot(2, 1, 1)}, at(-1000, 1000), api.ErrInfeasible},
		{all, at(-32, 32), api.ErrMany}, {all, at(-40, 40), api.ErrMany}, {all, at(-1000, 1000), api.ErrMany}, {[]drive.Spot{spot(1, 0, 0)}, at(0, 64), api.ErrMany},
	} {
		m, e := drive.Fitted(x.l, x.gains)
		expect.List(t, "Fitted with an error", m, e, nil, x.e)
	}
	m, e := drive.Fitted(all, at(-32, 31))
	if len(m) != 64 || e != api.OK || m[0] != band(-32, 100, 104) || m[63] != band(31, 100, 104) {
		t.Errorf("Fitted of the most bands: %v, error %d", m, e)
	}
	m, e = drive.Fitted([]drive.Spot{spot(0, 0, 0), spot(1, 10, 73)}, at(-1000, 1000))
	if len(m) != 64 || e != api.OK || m[0] != band(10, 0, 0) || m[63] != band(73, 0, 0) {
		t.Errorf("Fitted of the most bands of many gains: %v, error %d", m, e)
	}
	for _, x := range wrongLists() {
		m, e := drive.Fitted(x.x, at(0, 1))
		expect.List(t, "Fitted of wrong spots", m, e, nil, x.e)
		m, e = drive.Fitted(x.x, at(2000, 0))
		expect.List(t, "Fitted with two errors", m, e, nil, x.e)
	}
	for _, x := range wrongIntervals(-1000, 1000) {
		m, e := drive.Fitted(all, x.x)
		expect.List(t, "Fitted of wrong gains", m, e, nil, x.e)
	}
}

// TestFittedPairByPair asks for each pair that could be permitted.
func TestFittedPairByPair(t *testing.T) {
	r := rand.New(rand.NewSource(32))
	found := map[api.Errno]int{}
	for range 600 {
		var l []drive.Spot
		for range between(r, 1, 4) {
			low := between(r, -12, 12)
			l = append(l, spot(between(r, -4, 4), low, low+r.Intn(12)))
		}
		gains := interval(r, -8, 8)
		var wanted []drive.Band
		for gain := gains.Low; gain <= gains.High; gain++ {
			var offsets []int
			for offset := -80; offset <= 80; offset++ {
				if !slices.ContainsFunc(l, func(x drive.Spot) bool { return !allows(x, gain, offset) }) {
					offsets = append(offsets, offset)
				}
			}
			if len(offsets) > 0 {
				wanted = append(wanted, band(gain, offsets[0], offsets[len(offsets)-1]))
			}
		}
		wantedErr := api.OK
		if len(wanted) == 0 {
			wantedErr = api.ErrInfeasible
		}
		found[wantedErr]++
		m, e := drive.Fitted(l, gains)
		expect.List(t, "Fitted", m, e, wanted, wantedErr)
		m, e = drive.Refined(randomModel(r), spot(1, 1000, 1000))
		expect.List(t, "Refined by a far spot", m, e, nil, api.ErrInfeasible)
	}
	if found[api.OK] < 200 || found[api.ErrInfeasible] < 100 {
		t.Fatalf("the fits have the errors %v", found)
	}
}

func TestRefined(t *testing.T) {
	three := model(band(4, 100, 104), band(5, 100, 104), band(6, 100, 100))
	for _, x := range []struct {
		m []drive.Band
		x drive.Spot
		r []drive.Band
	}{
		{five(), spot(4, 121, 130), model(band(5, 101, 102))}, {five(), spot(4, 0, 130), five()}, {five(), spot(4, 122, 130), model(band(5, 102, 102))}, {five(), spot(4, 0, 120), model(band(5, 100, 100))}, {five(), spot(0, 101, 101), model(band(5, 101, 101))}, {five(), spot(-4, 81, 1000), model(band(5, 101, 102))}, {five(), spot(1000, -1000000, 1000000), five()},
		{three, spot(10, 140, 140), model(band(4, 100, 100))}, {three, spot(10, 150, 160), model(band(5, 100, 104), band(6, 100, 100))}, {three, spot(10, 144, 151), model(band(4, 104, 104), band(5, 100, 101))}, {three, spot(10, 144, 160), model(band(4, 104, 104), band(5, 100, 104), band(6, 100, 100))}, {three, spot(10, 155, 165), model(band(6, 100, 100))},
		{model(band(1000, -2000000, 2000000)), spot(1000, -1000000, 1000000), model(band(1000, -2000000, 0))}, {model(band(1000, -2000000, 2000000)), spot(-1000, -1000000, 1000000), model(band(1000, 0, 2000000))},
	} {
		m, e := drive.Refined(x.m, x.x)
		expect.List(t, "Refined", m, e, x.r, api.OK)
	}
	for _, x := range []drive.Spot{spot(4, 123, 130), spot(4, 100, 119), spot(0, 0, 0), spot(-1000, 1000000, 1000000)} {
		m, e := drive.Refined(five(), x)
		expect.List(t, "Refined by another spot", m, e, nil, api.ErrInfeasible)
	}
	for _, x := range wrongModels() {
		m, e := drive.Refined(x.x, spot(0, 0, 0))
		expect.List(t, "Refined of a wrong model", m, e, nil, x.e)
		m, e = drive.Refined(x.x, spot(1001, 0, -1))
		expect.List(t, "Refined with two errors", m, e, nil, x.e)
	}
	for _, x := range wrongSpots() {
		m, e := drive.Refined(five(), x.x)
		expect.List(t, "Refined by a wrong spot", m, e, nil, x.e)
	}
}

func TestDrifted(t *testing.T) {
	for _, x := range []struct {
		m  []drive.Band
		by api.Interval
		d  []drive.Band
	}{
		{five(), at(-1, 2), model(band(5, 99, 104))}, {five(), at(0, 0), five()}, {five(), at(3, 3), model(band(5, 103, 105))}, {five(), at(-7, -5), model(band(5, 93, 97))}, {five(), at(-1000000, 1000000), model(band(5, -999900, 1000102))}, {model(band(-5, 0, 1), band(5, 7, 7)), at(2, 3), model(band(-5, 2, 4), band(5, 9, 10))},
		{model(band(0, -1000000, 1000000)), at(-1000000, 1000000), model(band(0, -2000000, 2000000))}, {model(band(0, -2000000, 2000000)), at(0, 0), model(band(0, -2000000, 2000000))}, {model(band(0, 2000000, 2000000)), at(-1, 0), model(band(0, 1999999, 2000000))},
	} {
		m, e := drive.Drifted(x.m, x.by)
		expect.List(t, "Drifted", m, e, x.d, api.OK)
	}
	for _, x := range []struct {
		m  []drive.Band
		by api.Interval
	}{
		{model(band(0, -1000001, 0)), at(-1000000, 0)}, {model(band(0, 0, 1000001)), at(0, 1000000)}, {model(band(0, 2000000, 2000000)), at(0, 1)}, {model(band(0, 2000000, 2000000)), at(1, 1)}, {model(band(0, -2000000, -2000000)), at(-1, -1)}, {model(band(0, 0, 0), band(1, -2000000, 0)), at(-1, 0)}, {model(band(0, 0, 2000000), band(1, 0, 0)), at(0, 1)}, {model(band(0, -2000000, 2000000)), at(-1, 1)},
	} {
		m, e := drive.Drifted(x.m, x.by)
		expect.List(t, "Drifted too far", m, e, nil, api.ErrLarge)
	}
	for _, x := range wrongModels() {
		m, e := drive.Drifted(x.x, at(0, 0))
		expect.List(t, "Drifted of a wrong model", m, e, nil, x.e)
		m, e = drive.Drifted(x.x, at(2000000, 0))
		expect.List(t, "Drifted with two errors", m, e, nil, x.e)
	}
	for _, x := range wrongIntervals(-1000000, 1000000) {
		m, e := drive.Drifted(five(), x.x)
		expect.List(t, "Drifted by a wrong interval", m, e, nil, x.e)
		m, e = drive.Drifted(model(band(0, -2000000, 2000000)), x.x)
		expect.List(t, "Drifted by a wrong interval, too far", m, e, nil, x.e)
	}
}

func TestPairs(t *testing.T) {
	for _, x := range []struct {
		m []drive.Band
		n int
	}{{five(), 3}, {model(band(0, 7, 7)), 1}, {model(band(-1, -1, 1), band(1, 5, 5)), 4}, {bands(64), 128}, {model(band(1000, -2000000, 2000000)), 4000001}} {
		n, e := drive.Pairs(x.m)
		expect.Result(t, "Pairs", n, e, x.n, api.OK)
	}
	most := bands(64)
	for i := range most {
		most[i].Offset = at(-2000000, 2000000)
	}
	n, e := drive.Pairs(most)
	expect.Result(t, "Pairs of the greatest model", n, e, 64*4000001, api.OK)
	for _, x := range wrongModels() {
		n, e := drive.Pairs(x.x)
		expect.Result(t, "Pairs of a wrong model", n, e, 0, x.e)
	}
}

func TestHas(t *testing.T) {
	two := model(band(-7, -3, 0), band(5, 100, 102))
	for _, x := range []struct {
		gain, offset int
		has          bool
	}{
		{5, 100, true}, {5, 101, true}, {5, 102, true}, {5, 99, false}, {5, 103, false}, {4, 101, false}, {6, 101, false}, {-5, 101, false}, {-7, -3, true}, {-7, 0, true}, {-7, -4, false}, {-7, 1, false}, {-7, 101, false}, {5, 0, false}, {0, 0, false}, {1000, 2000000, false}, {-1000, -2000000, false},
	} {
		has, e := drive.Has(two, x.gain, x.offset)
		expect.Result(t, "Has", has, e, x.has, api.OK)
	}
	has, e := drive.Has(model(band(0, 1, 2)), 0, 0)
	expect.Result(t, "Has nothing", has, e, false, api.OK)
	has, e = drive.Has(model(band(3, 0, 2)), 0, 0)
	expect.Result(t, "Has another gain", has, e, false, api.OK)
	for _, n := range expect.Outside(-1000, 1000) {
		has, e := drive.Has(two, n, 100)
		expect.Result(t, "Has a wrong gain", has, e, false, api.ErrRange)
	}
	for _, n := range expect.Outside(-2000000, 2000000) {
		has, e := drive.Has(two, 5, n)
		expect.Result(t, "Has a wrong offset", has, e, false, api.ErrRange)
		has, e = drive.Has(two, math.MaxInt, n)
		expect.Result(t, "Has a wrong pair", has, e, false, api.ErrRange)
	}
	for _, x := range wrongModels() {
		has, e := drive.Has(x.x, 1, 0)
		expect.Result(t, "Has of a wrong model", has, e, false, x.e)
		has, e = drive.Has(x.x, 1001, 0)
		expect.Result(t, "Has with two errors", has, e, false, x.e)
	}
}

// TestModelsAreNew checks that results share no memory with an argument, nor with one another.
func TestModelsAreNew(t *testing.T) {
	m := model(band(-5, 0, 1), band(5, 7, 7))
	for _, change := range []func() ([]drive.Band, api.Errno){
		func() ([]drive.Band, api.Errno) { return drive.Drifted(m, at(0, 0)) },
		func() ([]drive.Band, api.Errno) { return drive.Refined(m, spot(0, -1000, 1000)) },
		func() ([]drive.Band, api.Errno) { return drive.Drifted(m, at(1, 2)) },
	} {
		first, _ := change()
		second, _ := change()
		before := slices.Clone(second)
		for i := range first {
			first[i] = band(9, 9, 9)
		}
		if !slices.Equal(second, before) || !slices.Equal(m, model(band(-5, 0, 1), band(5, 7, 7))) {
			t.Errorf("a model shares memory: %v %v", second, m)
		}
	}
	l := []drive.Spot{spot(0, 1, 1), spot(1, 2, 2)}
	if _, e := drive.Fitted(l, at(0, 5)); e != api.OK || !slices.Equal(l, []drive.Spot{spot(0, 1, 1), spot(1, 2, 2)}) {
		t.Errorf("Fitted changes its argument: %v", l)
	}
}
