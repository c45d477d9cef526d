package light_test

import (
	"math"
	"math/big"
	"math/rand"
	"testing"

	"spillage/api"
	"spillage/light"
)

// P1.3

func TestAdded(t *testing.T) {
	m, e := light.Added(six(), table(3, 2, 1, 1, 1, 1, 1, -6))
	wantMap(t, "Added", m, e, table(3, 2, 2, 3, 4, 5, 6, 0))
	m, e = light.Added(table(2, 1, 1023.9375, -1023.9375), table(2, 1, 0.0625, -0.0625))
	wantMap(t, "Added up to the limits", m, e, table(2, 1, 1024, -1024))
	randoms(8192, func(r *rand.Rand, a light.Map) {
		b := random(r, a.Width, a.Height, 8192)
		m, e := light.Added(a, b)
		wantMap(t, "Added", m, e, drawn(a.Width, a.Height, func(x, y int) int { return integerAt(a, x, y) + integerAt(b, x, y) }))
	})
}

func TestAddedWithErrors(t *testing.T) {
	for _, x := range wrongMaps() {
		m, e := light.Added(x.m, six())
		wantNoMap(t, "Added with a wrong first map", m, e, x.e)
		m, e = light.Added(six(), x.m)
		wantNoMap(t, "Added with a wrong second map", m, e, x.e)
	}
	m, e := light.Added(table(1, 1, nan()), table(1, 1))
	wantNoMap(t, "Added of two wrong maps", m, e, api.ErrForm)
	m, e = light.Added(table(1, 1), table(1, 1, nan()))
	wantNoMap(t, "Added of two wrong maps", m, e, api.ErrShape)
	for _, b := range []light.Map{flat(2, 3, 1), flat(6, 1, 1), flat(3, 1, 1), flat(2, 2, 1), flat(3, 3, 1), flat(4, 2, 1), flat(3, 2, 1024)} {
		wanted := api.ErrShape
		if b.Width == 3 && b.Height == 2 {
			wanted = api.ErrLarge
		}
		m, e := light.Added(six(), b)
		wantNoMap(t, "Added with another size, or too much", m, e, wanted)
	}
	m, e = light.Added(table(1, 1, 1024), table(2, 1, 1024, 1024))
	wantNoMap(t, "Added with both errors", m, e, api.ErrShape)
	m, e = light.Added(table(1, 1, 1024), table(1, 1, 0.0625))
	wantNoMap(t, "Added above the limit", m, e, api.ErrLarge)
	m, e = light.Added(table(2, 1, 0, -1024), table(2, 1, 0, -0.0625))
	wantNoMap(t, "Added below the limit", m, e, api.ErrLarge)
}

// scaledInteger rounds by the floor of n num / den + 1/2.
func scaledInteger(n, num, den int) int {
	twice := big.NewInt(int64(2*n*num + den))
	q, _ := new(big.Int).DivMod(twice, big.NewInt(int64(2*den)), new(big.Int))
	return int(q.Int64())
}

func TestScaled(t *testing.T) {
	for _, x := range []struct {
		num, den int
		m        light.Map
	}{
		{1, 2, whole(5, 1, 1, 0, 2, -1, 0)}, {-1, 2, whole(5, 1, 0, 1, -1, 2, 0)}, {1, 3, whole(5, 1, 0, 0, 1, -1, 0)},
		{2, 3, whole(5, 1, 1, -1, 2, -2, 0)}, {-3, 1, whole(5, 1, -3, 3, -9, 9, 0)}, {0, 5, whole(5, 1, 0, 0, 0, 0, 0)},
		{1, 1, whole(5, 1, 1, -1, 3, -3, 0)}, {1000, 1000, whole(5, 1, 1, -1, 3, -3, 0)}, {-1000, 1000, whole(5, 1, -1, 1, -3, 3, 0)},
		{1, 1000, whole(5, 1, 0, 0, 0, 0, 0)}, {1000, 1, whole(5, 1, 1000, -1000, 3000, -3000, 0)}, {1, 4, whole(5, 1, 0, 0, 1, -1, 0)},
		{1, 6, whole(5, 1, 0, 0, 1, 0, 0)},
	} {
		m, e := light.Scaled(whole(5, 1, 1, -1, 3, -3, 0), x.num, x.den)
		wantMap(t, "Scaled", m, e, x.m)
	}
	m, e := light.Scaled(table(2, 1, 0.0625, -0.0625), 1, 2)
	wantMap(t, "the chapter's scaled map", m, e, table(2, 1, 0.0625, 0))
	randoms(1600, func(r *rand.Rand, a light.Map) {
		num, den := r.Intn(2001)-1000, 100+r.Intn(901)
		m, e := light.Scaled(a, num, den)
		wantMap(t, "Scaled", m, e, drawn(a.Width, a.Height, func(x, y int) int { return scaledInteger(integerAt(a, x, y), num, den) }))
	})
}

func TestScaledWithErrors(t *testing.T) {
	for _, x := range wrongMaps() {
		m, e := light.Scaled(x.m, 1001, 0)
		wantNoMap(t, "Scaled of a wrong map", m, e, x.e)
	}
	for _, x := range []struct {
		num, den int
		e        api.Errno
	}{
		{1001, 1, api.ErrRange}, {-1001, 1, api.ErrRange}, {1, 0, api.ErrRange}, {1, -1, api.ErrRange}, {1, 1001, api.ErrRange}, {0, 0, api.ErrRange},
		{math.MaxInt, 1, api.ErrRange}, {math.MinInt, 1, api.ErrRange}, {1, math.MaxInt, api.ErrRange}, {1, math.MinInt, api.ErrRange},
		{1000, 999, api.ErrLarge}, {-1000, 999, api.ErrLarge}, {2, 1, api.ErrLarge}, {1000, 1, api.ErrLarge},
	} {
		m, e := light.Scaled(table(2, 1, 0, 1024), x.num, x.den)
		wantNoMap(t, "Scaled", m, e, x.e)
		m, e = light.Scaled(table(2, 1, 0, -1024), x.num, x.den)
		wantNoMap(t, "Scaled", m, e, x.e)
	}
	// 10922 times 3 / 2 is 16383, 10923 times 3 / 2 is rounded to 16385; -10923 times 3 / 2 to -16384.
	m, e := light.Scaled(whole(2, 1, 10922, -10923), 3, 2)
	wantMap(t, "Scaled just within the limits", m, e, whole(2, 1, 16383, -16384))
	m, e = light.Scaled(whole(1, 1, 10923), 3, 2)
	wantNoMap(t, "Scaled just above the limit", m, e, api.ErrLarge)
	m, e = light.Scaled(whole(1, 1, -10924), 3, 2)
	wantNoMap(t, "Scaled just below the limit", m, e, api.ErrLarge)
}

// gift is what each neighbour of a place gets from it.
func gift(n, share int) int {
	return int(math.Floor(float64(n*share) / 16))
}

// spreadInteger tells what a place keeps and gets; outside of the map there is nothing, and nobody.
func spreadInteger(m light.Map, share, x, y int) int {
	n := integerAt(m, x, y)
	for _, d := range [][2]int{{0, 1}, {0, -1}, {1, 0}, {-1, 0}} {
		a, b := x+d[0], y+d[1]
		if a >= 0 && b >= 0 && a < m.Width && b < m.Height {
			n += gift(integerAt(m, a, b), share) - gift(integerAt(m, x, y), share)
		}
	}
	return n
}

func TestSpread(t *testing.T) {
	for _, x := range []struct {
		m     light.Map
		share int
		out   light.Map
	}{
		{whole(3, 1, 0, 32, 0), 4, whole(3, 1, 8, 16, 8)}, {whole(3, 1, 0, 32, 0), 1, whole(3, 1, 2, 28, 2)},
		{whole(2, 1, -1, 0), 1, whole(2, 1, 0, -1)}, {whole(2, 1, 15, 0), 1, whole(2, 1, 15, 0)}, {whole(2, 1, 16, 0), 1, whole(2, 1, 15, 1)},
		{table(2, 2, 16, 0, 0, 0), 4, table(2, 2, 8, 4, 4, 0)}, {table(1, 1, 5), 4, table(1, 1, 5)}, {six(), 0, six()},
		{whole(3, 3, 0, 0, 0, 0, -1, 0, 0, 0, 0), 1, whole(3, 3, 0, -1, 0, -1, 3, -1, 0, -1, 0)},
		{whole(1, 3, 0, 32, 0), 2, whole(1, 3, 4, 24, 4)}, {whole(2, 1, 16384, -16384), 4, whole(2, 1, 8192, -8192)},
	} {
		m, e := light.Spread(x.m, x.share)
		wantMap(t, "Spread", m, e, x.out)
	}
	for share := range 5 {
		randoms(16000, func(_ *rand.Rand, a light.Map) {
			m, e := light.Spread(a, share)
			wantMap(t, "Spread", m, e, drawn(a.Width, a.Height, func(x, y int) int { return spreadInteger(a, share, x, y) }))
		})
	}
}

func TestSpreadWithErrors(t *testing.T) {
	for _, x := range wrongMaps() {
		m, e := light.Spread(x.m, 5)
		wantNoMap(t, "Spread of a wrong map", m, e, x.e)
	}
	for _, share := range []int{-1, 5, math.MaxInt, math.MinInt} {
		m, e := light.Spread(six(), share)
		wantNoMap(t, "Spread by a wrong share", m, e, api.ErrRange)
	}
	most := 16384
	m, e := light.Spread(whole(3, 3, 0, most, 0, most, 0, most, 0, most, 0), 4)
	wantMap(t, "Spread up to the limit", m, e, whole(3, 3, 8192, 4096, 8192, 4096, 16384, 4096, 8192, 4096, 8192))
	m, e = light.Spread(whole(3, 3, 0, most, 0, most, 1, most, 0, most, 0), 4)
	wantNoMap(t, "Spread above the limit", m, e, api.ErrLarge)
	m, e = light.Spread(whole(3, 3, 0, most, 0, most, 3, most, 0, most, 0), 4)
	wantNoMap(t, "Spread above the limit", m, e, api.ErrLarge)
}

func TestBinned(t *testing.T) {
	for _, x := range []struct {
		m    light.Map
		step int
		out  light.Map
	}{
		{six(), 1, six()}, {table(2, 2, 1, 2, 3, 4), 2, table(1, 1, 10)}, {table(4, 2, 1, 2, 3, 4, 5, 6, 7, 8), 2, table(2, 1, 14, 22)},
		{table(2, 4, 1, 2, 3, 4, 5, 6, 7, 8), 2, table(1, 2, 10, 26)}, {flat(64, 64, 0.25), 64, table(1, 1, 1024)}, {flat(64, 64, -0.25), 64, table(1, 1, -1024)},
		{table(2, 2, 1024, -1024, 1024, -1024), 2, table(1, 1, 0)}, {flat(3, 6, 1), 3, table(1, 2, 9, 9)},
	} {
		m, e := light.Binned(x.m, x.step)
		wantMap(t, "Binned", m, e, x.out)
	}
	r := rand.New(rand.NewSource(3))
	for step := 1; step <= 16; step++ {
		a := random(r, step*3, step*2, 64)
		m, e := light.Binned(a, step)
		wantMap(t, "Binned", m, e, drawn(3, 2, func(x, y int) int {
			sum := 0
			for i := range step * step {
				sum += integerAt(a, x*step+i%step, y*step+i/step)
			}
			return sum
		}))
	}
}

func TestBinnedWithErrors(t *testing.T) {
	for _, x := range wrongMaps() {
		m, e := light.Binned(x.m, 0)
		wantNoMap(t, "Binned of a wrong map", m, e, x.e)
	}
	for _, x := range []struct {
		m    light.Map
		step int
		e    api.Errno
	}{
		{six(), 0, api.ErrRange}, {six(), -1, api.ErrRange}, {six(), 65, api.ErrRange}, {six(), math.MaxInt, api.ErrRange}, {six(), math.MinInt, api.ErrRange},
		{six(), 2, api.ErrShape}, {six(), 3, api.ErrShape}, {six(), 6, api.ErrShape}, {six(), 64, api.ErrShape}, {flat(2, 3, 1024), 2, api.ErrShape},
		{table(2, 2, 1000, 1000, 0, 0), 2, api.ErrLarge}, {table(2, 2, 1024, 0.0625, 0, 0), 2, api.ErrLarge}, {table(2, 2, -1024, -0.0625, 0, 0), 2, api.ErrLarge},
		{table(4, 2, 0, 0, 1024, 0, 0, 0, 0, 1), 2, api.ErrLarge},
	} {
		m, e := light.Binned(x.m, x.step)
		wantNoMap(t, "Binned", m, e, x.e)
	}
}
