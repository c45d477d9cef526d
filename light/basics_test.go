package light_test

import (
	"math"
	"slices"
	"strings"
	"testing"

	"spillage/api"
	"spillage/expect"
	"spillage/light"
)

// P1.1

func TestIsName(t *testing.T) {
	for s, is := range map[string]bool{
		"a": true, "z": true, "A": true, "Z": true, "Sun_9": true, "a0": true, "a9": true, "a_": true,
		"aA": true, "aZ": true, "az": true, "a__": true,
		"": false, "_": false, "_a": false, "0": false, "9a": false, "@": false, "[": false, "`": false, "{": false,
		"a@": false, "a[": false, "a`": false, "a{": false, "a/": false, "a:": false, "a b": false, "a ": false,
		" a": false, "a-": false, "a\n": false, "a\x00": false, "\u00e4": false, "a\u00e4": false, "a\u0663": false,
		"a\xff": false, "\xff": false, "\u0410": false, "a\u0301": false,
		strings.Repeat("a", 24):            true,
		strings.Repeat("a", 25):            false,
		"Abcdefghij_lmnopqrstuvw9":         true,
		strings.Repeat("\u00e4", 12):       false,
		strings.Repeat("a", 1000000):       false,
		"a" + strings.Repeat("_", 23):      true,
		strings.Repeat("a", 23) + "\u00e4": false,
	} {
		if got := light.IsName(s); got != is {
			t.Errorf("IsName %.40q: %v, want %v", s, got, is)
		}
	}
}

func TestIsNameOfEachByte(t *testing.T) {
	letters := "ABCDEFGHIJKLMNOPQRSTUVWXYZabcdefghijklmnopqrstuvwxyz"
	for b := range 256 {
		c := string([]byte{byte(b)})
		if got, is := light.IsName(c), strings.Contains(letters, c); got != is {
			t.Errorf("IsName %q: %v, want %v", c, got, is)
		}
		if got, is := light.IsName("x"+c+"y"), strings.Contains(letters+"0123456789_", c); got != is {
			t.Errorf("IsName %q: %v, want %v", "x"+c+"y", got, is)
		}
	}
}

func TestDraw(t *testing.T) {
	for _, x := range []struct {
		key, n int
		l      []int
	}{
		{1, 0, nil},
		{2147483646, 0, nil},
		{1, 1, []int{0}},
		{1, 2, []int{1, 0}},
		{1, 3, []int{0, 2, 1}},
		{12345, 10, []int{1, 3, 7, 8, 9, 4, 0, 2, 6, 5}},
		{2147483646, 6, []int{5, 4, 2, 0, 1, 3}},
		{7, 20, []int{4, 9, 7, 6, 1, 15, 12, 13, 17, 16, 19, 2, 0, 5, 18, 14, 8, 10, 3, 11}},
	} {
		l, e := light.Draw(x.key, x.n)
		expect.Err(t, "Draw", e, api.OK)
		if !slices.Equal(l, x.l) {
			t.Errorf("Draw %d %d: %v, want %v", x.key, x.n, l, x.l)
		}
	}
}

func TestDrawOfTheMost(t *testing.T) {
	l, e := light.Draw(2147483646, 256)
	expect.Err(t, "Draw", e, api.OK)
	if len(l) != 256 {
		t.Fatalf("Draw has %d elements", len(l))
	}
	if !slices.Equal(l[:8], []int{93, 132, 31, 200, 199, 63, 192, 191}) || !slices.Equal(l[252:], []int{235, 50, 151, 55}) {
		t.Errorf("Draw: %v", l)
	}
	sorted := slices.Sorted(slices.Values(l))
	for i, n := range sorted {
		if i != n {
			t.Fatalf("Draw is no permutation: %v", l)
		}
	}
}

func TestDrawWithErrors(t *testing.T) {
	for _, x := range [][2]int{
		{0, 3}, {-1, 3}, {2147483647, 3}, {math.MaxInt, 3}, {math.MinInt, 3},
		{5, -1}, {5, 257}, {5, math.MaxInt}, {5, math.MinInt}, {0, -1}, {0, 257},
	} {
		l, e := light.Draw(x[0], x[1])
		expect.Err(t, "Draw", e, api.ErrRange)
		if len(l) != 0 {
			t.Errorf("Draw %v: %v beside an error", x, l)
		}
	}
}

func TestCheckRatio(t *testing.T) {
	for _, x := range []struct {
		num, den int
		e        api.Errno
	}{
		{3, 4, api.OK}, {-3, 4, api.OK}, {0, 1, api.OK}, {1, 1, api.OK}, {-1, 1, api.OK}, {7, 1, api.OK},
		{999999999, 1, api.OK}, {-999999999, 1, api.OK}, {-999999999, 2, api.OK}, {1, 999999999, api.OK},
		{999999998, 999999999, api.OK}, {-999999998, 999999999, api.OK}, {1, 2, api.OK}, {35, 6, api.OK},
		{0, 2, api.ErrForm}, {0, 999999999, api.ErrForm}, {2, 4, api.ErrForm}, {-2, 4, api.ErrForm},
		{6, 3, api.ErrForm}, {-6, 3, api.ErrForm}, {35, 21, api.ErrForm}, {999999999, 999999999, api.ErrForm},
		{-999999999, 3, api.ErrForm}, {2, 2, api.ErrForm},
		{1, 0, api.ErrRange}, {0, 0, api.ErrRange}, {1, -1, api.ErrRange}, {2, -4, api.ErrRange}, {-1, -2, api.ErrRange},
		{1000000000, 1, api.ErrRange}, {-1000000000, 1, api.ErrRange}, {1, 1000000000, api.ErrRange},
		{1000000000, 2, api.ErrRange}, {2, 1000000000, api.ErrRange}, {0, 1000000000, api.ErrRange},
		{math.MinInt, 1, api.ErrRange}, {math.MaxInt, 1, api.ErrRange}, {1, math.MinInt, api.ErrRange},
		{1, math.MaxInt, api.ErrRange}, {math.MinInt, math.MinInt, api.ErrRange}, {0, math.MinInt, api.ErrRange},
	} {
		if e := light.CheckRatio(api.Ratio{Num: x.num, Den: x.den}); e != x.e {
			t.Errorf("CheckRatio %d / %d: %d, want %d", x.num, x.den, e, x.e)
		}
	}
}

func TestCheckSample(t *testing.T) {
	for _, x := range []struct {
		n float32
		e api.Errno
	}{
		{0, api.OK}, {minusZero(), api.OK}, {0.0625, api.OK}, {-0.0625, api.OK}, {1, api.OK}, {-1, api.OK},
		{1024, api.OK}, {-1024, api.OK}, {1023.9375, api.OK}, {-1023.9375, api.OK}, {511.5625, api.OK},
		{1024.0625, api.ErrRange}, {-1024.0625, api.ErrRange}, {0.03125, api.ErrRange}, {-0.03125, api.ErrRange},
		{1025, api.ErrRange}, {-1025, api.ErrRange}, {0.1, api.ErrRange}, {1023.96875, api.ErrRange},
		{-1023.96875, api.ErrRange}, {2048, api.ErrRange}, {1.03125, api.ErrRange},
		{math.Nextafter32(1, 2), api.ErrRange}, {math.Nextafter32(1024, 0), api.ErrRange},
		{math.Nextafter32(1024, 2000), api.ErrRange}, {math.Nextafter32(-1024, -2000), api.ErrRange},
		{math.SmallestNonzeroFloat32, api.ErrRange}, {-math.SmallestNonzeroFloat32, api.ErrRange},
		{math.MaxFloat32, api.ErrRange}, {-math.MaxFloat32, api.ErrRange}, {1e30, api.ErrRange},
		{nan(), api.ErrForm}, {inf(1), api.ErrForm}, {inf(-1), api.ErrForm},
		{math.Float32frombits(0x7f800001), api.ErrForm}, {math.Float32frombits(0xffffffff), api.ErrForm},
	} {
		if e := light.CheckSample(x.n); e != x.e {
			t.Errorf("CheckSample %v: %d, want %d", x.n, e, x.e)
		}
	}
	for n := -16384; n <= 16384; n++ {
		if e := light.CheckSample(float32(n) / 16); e != api.OK {
			t.Fatalf("CheckSample of the integer %d: %d", n, e)
		}
		if e := light.CheckSample((float32(n) + 0.5) / 16); e != api.ErrRange {
			t.Fatalf("CheckSample of the integer %d and a half: %d", n, e)
		}
	}
}

func TestCheckVectorAndCheckDirection(t *testing.T) {
	for _, v := range []api.Vector{
		{X: 1}, {Y: 1}, {Z: 1}, {X: -1}, {Y: -1}, {Z: -1}, {X: 3, Y: -4, Z: 5},
		{X: 1048576, Y: 1048576, Z: 1048576}, {X: -1048576, Y: -1048576, Z: -1048576}, {X: 1, Y: -1}, {Y: 1, Z: -1},
	} {
		expect.Err(t, "CheckVector", light.CheckVector(v), api.OK)
		expect.Err(t, "CheckDirection", light.CheckDirection(v), api.OK)
	}
	for _, n := range []int{1048577, -1048577, math.MaxInt, math.MinInt, 1 << 32, -1 << 32} {
		for _, v := range []api.Vector{{X: n}, {Y: n}, {Z: n}, {X: n, Y: 1, Z: 1}, {X: 1, Y: 1, Z: n}, {X: n, Y: n, Z: n}} {
			expect.Err(t, "CheckVector", light.CheckVector(v), api.ErrRange)
			expect.Err(t, "CheckDirection", light.CheckDirection(v), api.ErrRange)
		}
	}
	expect.Err(t, "CheckVector of 0", light.CheckVector(api.Vector{}), api.OK)
	expect.Err(t, "CheckDirection of 0", light.CheckDirection(api.Vector{}), api.ErrZero)
}
