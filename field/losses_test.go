package field_test

import (
	"math"
	"math/big"
	"math/rand"
	"slices"
	"testing"

	"spillage/api"
	"spillage/expect"
	"spillage/field"
	"spillage/light"
)

// P4.4

func TestLit(t *testing.T) {
	up, aside, above := vec(0, 0, 1), vec(100, 0, 60), vec(0, 0, 60)
	for _, x := range []struct {
		l           []field.Mirror
		mirror      int
		sun, target api.Vector
		k           int
		n           [3]int
	}{
		{mirrors(a(), b()), 0, up, aside, 4, [3]int{8, 0, 8}}, {mirrors(a(), b()), 0, up, above, 4, [3]int{8, 0, 8}}, {mirrors(a(), b()), 0, vec(0, 0, -1), aside, 4, [3]int{16, 0, 0}}, {mirrors(a(), b()), 0, vec(1, 0, 1), above, 2, [3]int{0, 4, 0}}, {mirrors(a(), b()), 0, vec(1, 0, 1), above, 4, [3]int{0, 8, 8}},
		{mirrors(a(), b()), 0, vec(1, 0, 5), above, 4, [3]int{8, 4, 4}}, {mirrors(a(), b()), 1, up, above, 8, [3]int{0, 0, 64}}, {mirrors(a()), 0, up, vec(0, 0, 10), 3, [3]int{0, 9, 0}}, {mirrors(a()), 0, up, vec(0, 0, 11), 1, [3]int{0, 0, 1}}, {mirrors(a()), 0, vec(1, 0, 0), vec(0, 0, 9), 5, [3]int{25, 0, 0}},
	} {
		n, e := field.Lit(x.l, x.mirror, x.sun, x.target, x.k)
		expect.Result(t, "Lit", n, e, x.n, api.OK)
	}
}

func TestLitOfRandomFields(t *testing.T) {
	r := rand.New(rand.NewSource(60))
	mixed := 0
	for range 1000 {
		l, sun, target, k := randomField(r, between(r, 1, 5)), randomWay(r, 4), randomVector(r, 20), between(r, 1, 8)
		for i := range l {
			wanted := litOf(l, i, sun, target, k)
			if !slices.Contains(wanted[:], 0) {
				mixed++
			}
			n, e := field.Lit(l, i, sun, target, k)
			expect.Result(t, "Lit", n, e, wanted, api.OK)
		}
	}
	if mixed < 100 {
		t.Errorf("only %d mirrors with dark, blocked and left facets", mixed)
	}
}

func TestLitWithErrors(t *testing.T) {
	up, target := vec(0, 0, 1), vec(0, 0, 60)
	for _, x := range wrongSeen(1024, wrongWays(1024)) {
		n, e := field.Lit(x.x.l, x.x.mirror, x.x.way, target, x.x.k)
		expect.Result(t, "Lit with an error", n, e, [3]int{}, x.e)
		if x.x.k == 2 {
			_, e = field.Lit(x.x.l, x.x.mirror, x.x.way, vec(4097, 0, 0), 0)
			expect.Err(t, "Lit with an error, and a wrong target", e, x.e)
		}
	}
	for _, x := range wrongSeen(4096, wrongVectors(4096)) {
		n, e := field.Lit(x.x.l, x.x.mirror, up, x.x.way, x.x.k)
		expect.Result(t, "Lit with an error", n, e, [3]int{}, x.e)
	}
}

func TestRanked(t *testing.T) {
	up, aside := vec(0, 0, 1), vec(100, 0, 60)
	for _, x := range []struct {
		l           []field.Mirror
		sun, target api.Vector
		k           int
		ranks       []int
	}{
		{mirrors(a(), b(), c()), up, aside, 4, []int{1, 2, 0}}, {mirrors(c(), a(), b()), up, aside, 4, []int{0, 2, 1}}, {mirrors(a(), b(), c()), vec(0, 0, -1), aside, 4, []int{0, 1, 2}}, {mirrors(a(), b(), c()), vec(1, 0, 1), aside, 4, []int{0, 1, 2}}, {mirrors(a()), up, aside, 1, []int{0}}, {nil, up, aside, 1, nil},
		{row(12), up, aside, 2, []int{0, 1, 2, 3, 4, 5, 6, 7, 8, 9, 10, 11}}, {append(row(8), b()), up, aside, 4, []int{1, 2, 3, 4, 5, 6, 7, 8, 0}},
	} {
		ranks, e := field.Ranked(x.l, x.sun, x.target, x.k)
		expect.List(t, "Ranked", ranks, e, x.ranks, api.OK)
	}
}

func TestRankedOfRandomFields(t *testing.T) {
	r := rand.New(rand.NewSource(61))
	for i := range 300 {
		l, sun, target, k := randomField(r, between(r, 1, []int{6, 30}[i%2])), randomWay(r, 4), randomVector(r, 20), between(r, 1, 3)
		ranked := make([][]int, k*k+1)
		for i := range l {
			left := litOf(l, i, sun, target, k)[2]
			ranked[k*k-left] = append(ranked[k*k-left], i)
		}
		wanted := slices.Concat(ranked...)
		ranks, e := field.Ranked(l, sun, target, k)
		expect.List(t, "Ranked", ranks, e, wanted, api.OK)
	}
}

func TestRankedWithErrors(t *testing.T) {
	l, up, target := mirrors(a(), b()), vec(0, 0, 1), vec(0, 0, 60)
	for _, x := range wrongFields() {
		ranks, e := field.Ranked(x.x, up, target, 2)
		expect.List(t, "Ranked of no field", ranks, e, nil, x.e)
		_, e = field.Ranked(x.x, vec(0, 0, 0), vec(4097, 0, 0), 0)
		expect.Err(t, "Ranked of four errors", e, x.e)
	}
	for _, x := range wrongWays(1024) {
		ranks, e := field.Ranked(l, x.x, target, 2)
		expect.List(t, "Ranked by a wrong sun", ranks, e, nil, x.e)
		_, e = field.Ranked(nil, x.x, vec(4097, 0, 0), 9)
		expect.Err(t, "Ranked of three errors", e, x.e)
	}
	for _, x := range wrongVectors(4096) {
		ranks, e := field.Ranked(l, up, x.x, 2)
		expect.List(t, "Ranked by a wrong target", ranks, e, nil, x.e)
	}
	for _, k := range expect.Outside(1, 8) {
		ranks, e := field.Ranked(nil, up, target, k)
		expect.List(t, "Ranked by a wrong number", ranks, e, nil, api.ErrRange)
	}
}

func TestNeighbours(t *testing.T) {
	l := mirrors(a(), b(), c())
	for _, x := range []struct {
		l         []field.Mirror
		mirror, n int
		near      []int
	}{
		{l, 0, 5, []int{1, 2}}, {l, 0, 2, []int{1, 2}}, {l, 0, 1, []int{1}}, {l, 0, 0, nil}, {l, 2, 1, []int{0}}, {l, 2, 64, []int{0, 1}}, {l, 1, 64, []int{0, 2}}, {mirrors(a()), 0, 64, nil}, {row(5), 2, 64, []int{1, 3, 0, 4}}, {row(5), 2, 3, []int{1, 3, 0}}, {row(64), 0, 64, slices.Collect(numbers(1, 64))}, {row(64), 63, 2, []int{62, 61}},
		{mirrors(c(), named("x", a()), a(), b()), 0, 64, []int{1, 2, 3}}, {mirrors(steep(), named("far", field.Mirror{Centre: vec(4096, -4096, -4096), U: vec(1, 0, 0), V: vec(0, 1, 0)}), named("near", field.Mirror{Centre: vec(4096, -4096, -4095), U: vec(1, 0, 0), V: vec(0, 1, 0)})), 0, 64, []int{2, 1}},
	} {
		near, e := field.Neighbours(x.l, x.mirror, x.n)
		expect.List(t, "Neighbours", near, e, x.near, api.OK)
	}
	for _, x := range wrongFields() {
		near, e := field.Neighbours(x.x, 0, 1)
		expect.List(t, "Neighbours in no field", near, e, nil, x.e)
		_, e = field.Neighbours(x.x, -1, -1)
		expect.Err(t, "Neighbours of three errors", e, x.e)
	}
	for _, n := range expect.Outside(0, 2) {
		near, e := field.Neighbours(l, n, 1)
		expect.List(t, "Neighbours of no mirror", near, e, nil, api.ErrUnknown)
		_, e = field.Neighbours(l, n, 65)
		expect.Err(t, "Neighbours of two errors", e, api.ErrUnknown)
	}
	for _, n := range expect.Outside(0, 64) {
		near, e := field.Neighbours(l, 0, n)
		expect.List(t, "Neighbours of a wrong number", near, e, nil, api.ErrRange)
	}
	_, e := field.Neighbours(nil, 0, 1)
	expect.Err(t, "Neighbours in an empty field", e, api.ErrUnknown)
}

// numbers visits the numbers of a span.
func numbers(from, to int) func(yield func(int) bool) {
	return func(yield func(int) bool) {
		for n := from; n < to && yield(n); n++ {
		}
	}
}

func TestNeighboursOfRandomFields(t *testing.T) {
	r := rand.New(rand.NewSource(62))
	for range 1000 {
		l := randomField(r, between(r, 1, 20))
		mirror, n := r.Intn(len(l)), r.Intn(24)
		var wanted []int
		for square := range 3*18*18 + 1 {
			for i := range l {
				away := plus(l[i].Centre, minus(l[mirror].Centre))
				if i != mirror && dot(away, away) == square && len(wanted) < n {
					wanted = append(wanted, i)
				}
			}
		}
		near, e := field.Neighbours(l, mirror, n)
		expect.List(t, "Neighbours", near, e, wanted, api.OK)
	}
}

// wrongShares are ratios that are none, or no shares.
func wrongShares() []wrong[api.Ratio] {
	var l []wrong[api.Ratio]
	for _, x := range []api.Ratio{ratio(0, 0), ratio(1, 0), ratio(1, -1), ratio(2, 4), ratio(0, 2), ratio(-2, 4), ratio(3000, 2000), ratio(2, 2002), ratio(1000000000, 1), ratio(1, 1000000000), ratio(math.MinInt, 1), ratio(1, math.MaxInt), ratio(math.MinInt, math.MinInt)} {
		l = append(l, wrong[api.Ratio]{x, light.CheckRatio(x)})
	}
	for _, x := range []api.Ratio{ratio(3, 2), ratio(2, 1), ratio(1001, 1000), ratio(-1, 1), ratio(-1, 2), ratio(-1, 1000), ratio(1, 1001), ratio(1000, 1001), ratio(-1, 1001), ratio(1, 999999999), ratio(999999999, 1), ratio(-999999999, 1)} {
		l = append(l, wrong[api.Ratio]{x, api.ErrRange})
	}
	return l
}

func TestEfficiency(t *testing.T) {
	least, most := ratio(1, 1000), ratio(999, 1000)
	for _, x := range []struct {
		l []api.Ratio
		x api.Ratio
	}{
		{nil, ratio(1, 1)}, {[]api.Ratio{}, ratio(1, 1)}, {[]api.Ratio{ratio(1, 2), ratio(2, 3), ratio(3, 4)}, ratio(1, 4)}, {[]api.Ratio{ratio(1, 1)}, ratio(1, 1)}, {[]api.Ratio{ratio(0, 1)}, ratio(0, 1)}, {[]api.Ratio{ratio(0, 1), least, most}, ratio(0, 1)}, {[]api.Ratio{most, ratio(0, 1)}, ratio(0, 1)}, {[]api.Ratio{ratio(5, 7)}, ratio(5, 7)}, {[]api.Ratio{ratio(5, 7), ratio(7, 10)}, ratio(1, 2)},
		{[]api.Ratio{least, least, least, least, least, least}, ratio(1, 1000000000000000000)}, {[]api.Ratio{most, most, most, most, most, most}, ratio(994014980014994001, 1000000000000000000)}, {[]api.Ratio{ratio(1, 997), ratio(1, 991), ratio(1, 983)}, ratio(1, 971230541)},
	} {
		got, e := field.Efficiency(x.l)
		expect.Result(t, "Efficiency", got, e, x.x, api.OK)
	}
	for _, x := range wrongShares() {
		for _, l := range [][]api.Ratio{{x.x}, {least, ratio(0, 1), x.x, ratio(0, 0)}, {most, most, most, most, most, x.x}} {
			got, e := field.Efficiency(l)
			expect.Result(t, "Efficiency of no share", got, e, api.Ratio{}, x.e)
		}
		got, e := field.Efficiency(slices.Repeat([]api.Ratio{x.x}, 7))
		expect.Result(t, "Efficiency of too many", got, e, api.Ratio{}, api.ErrMany)
	}
	got, e := field.Efficiency(slices.Repeat([]api.Ratio{ratio(1, 1)}, 7))
	expect.Result(t, "Efficiency of too many", got, e, api.Ratio{}, api.ErrMany)
}

// randomShare returns a share with a denominator up to a limit.
func randomShare(r *rand.Rand, limit int) api.Ratio {
	den := between(r, 1, limit)
	x := frac(r.Intn(den+1), den)
	return ratio(int(x.Num().Int64()), int(x.Denom().Int64()))
}

func TestEfficiencyOfRandomShares(t *testing.T) {
	r := rand.New(rand.NewSource(63))
	for i := range 5000 {
		var l []api.Ratio
		product := frac(1, 1)
		for range r.Intn(7) {
			x := randomShare(r, []int{12, 1000}[i%2])
			l = append(l, x)
			product.Mul(product, frac(x.Num, x.Den))
		}
		got, e := field.Efficiency(l)
		expect.Result(t, "Efficiency", got, e, ratio(int(product.Num().Int64()), int(product.Denom().Int64())), api.OK)
	}
}

func reading(left, facets, weight int) field.Reading {
	return field.Reading{Left: left, Facets: facets, Weight: weight}
}

func wrongReadings() []field.Reading {
	var l []field.Reading
	for _, n := range expect.Outside(1, 64) {
		l = append(l, reading(0, n, 1), reading(n, n, 1), reading(-1, n, -1))
	}
	for _, n := range expect.Outside(0, 16) {
		l = append(l, reading(n, 16, 1), reading(n, 16, -1))
	}
	for _, n := range expect.Outside(0, 1000) {
		l = append(l, reading(8, 16, n))
	}
	return l
}

func TestSummed(t *testing.T) {
	for _, x := range []struct {
		l []field.Reading
		x api.Ratio
	}{
		{[]field.Reading{reading(8, 16, 2), reading(16, 16, 1)}, ratio(2, 3)}, {[]field.Reading{reading(8, 16, 2)}, ratio(1, 2)}, {[]field.Reading{reading(8, 16, 0), reading(3, 7, 1)}, ratio(3, 7)}, {[]field.Reading{reading(0, 64, 1000)}, ratio(0, 1)}, {[]field.Reading{reading(64, 64, 1000)}, ratio(1, 1)}, {[]field.Reading{reading(1, 1, 1), reading(0, 64, 1)}, ratio(1, 65)}, {[]field.Reading{reading(1, 2, 3), reading(0, 5, 0), reading(4, 5, 6)}, ratio(3, 4)},
		{slices.Repeat([]field.Reading{reading(63, 64, 1000)}, 256), ratio(63, 64)}, {append(slices.Repeat([]field.Reading{reading(64, 64, 1000)}, 255), reading(0, 1, 1)), ratio(16320000, 16320001)},
	} {
		got, e := field.Summed(x.l)
		expect.Result(t, "Summed", got, e, x.x, api.OK)
	}
	for _, l := range [][]field.Reading{nil, {}, {reading(8, 16, 0)}, {reading(8, 16, 0), reading(0, 1, 0)}, slices.Repeat([]field.Reading{reading(1, 1, 0)}, 256)} {
		got, e := field.Summed(l)
		expect.Result(t, "Summed without weights", got, e, api.Ratio{}, api.ErrNone)
	}
	for _, x := range wrongReadings() {
		for _, l := range [][]field.Reading{{x}, {reading(8, 16, 0), x}, {reading(8, 16, 1), x, reading(8, 16, 1)}} {
			got, e := field.Summed(l)
			expect.Result(t, "Summed of no reading", got, e, api.Ratio{}, api.ErrRange)
		}
		got, e := field.Summed(slices.Repeat([]field.Reading{x}, 257))
		expect.Result(t, "Summed of too many", got, e, api.Ratio{}, api.ErrMany)
	}
	got, e := field.Summed(slices.Repeat([]field.Reading{reading(1, 1, 1)}, 257))
	expect.Result(t, "Summed of too many", got, e, api.Ratio{}, api.ErrMany)
}

func TestSummedOfRandomReadings(t *testing.T) {
	r := rand.New(rand.NewSource(64))
	for range 5000 {
		l := []field.Reading{reading(1, 2, 1)}
		left, all := frac(1, 1), frac(2, 1)
		for range r.Intn(9) {
			facets, weight := between(r, 1, 64), r.Intn(1001)
			x := reading(r.Intn(facets+1), facets, weight)
			l = append(l, x)
			left.Add(left, frac(x.Left*weight, 1))
			all.Add(all, frac(facets*weight, 1))
		}
		mean := new(big.Rat).Quo(left, all)
		got, e := field.Summed(l)
		expect.Result(t, "Summed", got, e, ratio(int(mean.Num().Int64()), int(mean.Denom().Int64())), api.OK)
	}
}
