package cloud_test

import (
	"math/rand"
	"slices"
	"testing"

	"spillage/api"
	"spillage/cloud"
	"spillage/expect"
	"spillage/light"
)

// P7.1

func TestCheckImage(t *testing.T) {
	for _, m := range []light.Map{a(), b(), flat(64, 64, 1024), flat(1, 64, 0), flat(64, 1, 0.0625), table(2, 1, 0, 16384), flat(1, 1, minusZero())} {
		expect.Err(t, "CheckImage", cloud.CheckImage(m), api.OK)
	}
	for _, x := range mapFaults(func(a *arguments, m light.Map) { a.image = m }) {
		bad := rightArguments()
		x.Spoil(&bad)
		expect.Err(t, "CheckImage of no image", cloud.CheckImage(bad.image), x.Err)
	}
}

// shown is an image with several clouds: two of its cells touch at their corners alone, two are at the end of a row and the begin of the next one.
func shown() light.Map {
	return drawn(
		"30115",
		"20105",
		"00110",
		"07001",
	)
}

func TestDark(t *testing.T) {
	for _, x := range []struct {
		m     light.Map
		limit float32
		l     []api.Point
	}{
		{a(), 1, points(0, 0, 1, 0)}, {a(), 2, points(0, 0, 1, 0)}, {a(), 0.0625, points(0, 0, 1, 0)}, {a(), 2.0625, nil}, {a(), 1024, nil}, {b(), 2, points(1, 1, 2, 1)}, {flat(2, 2, 0), 0.0625, nil}, {flat(2, 2, minusZero()), 0.0625, nil}, {flat(2, 2, 1024), 1024, points(0, 0, 1, 0, 0, 1, 1, 1)}, {flat(2, 1, 1023.9375), 1024, nil},
		{shown(), 3, points(0, 0, 4, 0, 4, 1, 1, 3)}, {shown(), 2, points(0, 0, 4, 0, 0, 1, 4, 1, 1, 3)}, {shown(), 5, points(4, 0, 4, 1, 1, 3)}, {shown(), 1, points(0, 0, 2, 0, 3, 0, 4, 0, 0, 1, 2, 1, 4, 1, 2, 2, 3, 2, 1, 3, 4, 3)}, {table(3, 1, 1, 0, 2), 0.0625, points(0, 0, 2, 0)}, {table(3, 1, 1, 0, 2), 0.125, points(2, 0)},
	} {
		l, e := cloud.Dark(x.m, x.limit)
		expect.List(t, "Dark", l, e, x.l, api.OK)
	}
}

// sameClouds compares lists of clouds.
func sameClouds(a, b []cloud.Cloud) bool {
	return slices.EqualFunc(a, b, func(c, d cloud.Cloud) bool { return slices.Equal(c, d) })
}

func TestClouds(t *testing.T) {
	group := func(l ...int) cloud.Cloud { return points(l...) }
	for _, x := range []struct {
		m     light.Map
		limit float32
		l     []cloud.Cloud
	}{
		{a(), 1, []cloud.Cloud{group(0, 0, 1, 0)}}, {a(), 3, nil}, {flat(3, 1, 0), 1, nil}, {drawn("1"), 1, []cloud.Cloud{group(0, 0)}},
		{shown(), 1, []cloud.Cloud{group(0, 0, 0, 1), group(2, 0, 3, 0, 4, 0, 2, 1, 4, 1, 2, 2, 3, 2), group(1, 3), group(4, 3)}}, {shown(), 3, []cloud.Cloud{group(0, 0), group(4, 0, 4, 1), group(1, 3)}},
		{drawn("101", "010", "101"), 1, []cloud.Cloud{group(0, 0), group(2, 0), group(1, 1), group(0, 2), group(2, 2)}}, {drawn("001", "100"), 1, []cloud.Cloud{group(2, 0), group(0, 1)}}, {drawn("10001", "00000"), 1, []cloud.Cloud{group(0, 0), group(4, 0)}}, {drawn("1", "0", "1"), 1, []cloud.Cloud{group(0, 0), group(0, 2)}},
		{drawn("101", "111"), 1, []cloud.Cloud{group(0, 0, 2, 0, 0, 1, 1, 1, 2, 1)}}, {drawn("010", "011", "110"), 1, []cloud.Cloud{group(1, 0, 1, 1, 2, 1, 0, 2, 1, 2)}}, {drawn("00100", "10101", "11111"), 1, []cloud.Cloud{group(2, 0, 0, 1, 2, 1, 4, 1, 0, 2, 1, 2, 2, 2, 3, 2, 4, 2)}}, {drawn("1101", "0011", "1010"), 1, []cloud.Cloud{group(0, 0, 1, 0), group(3, 0, 2, 1, 3, 1, 2, 2), group(0, 2)}},
	} {
		l, e := cloud.Clouds(x.m, x.limit)
		if !sameClouds(l, x.l) || e != api.OK {
			t.Errorf("Clouds %v %v: %v, error %d, want %v", x.m, x.limit, l, e, x.l)
		}
	}
	whole, e := cloud.Clouds(flat(64, 64, 5), 5)
	if e != api.OK || len(whole) != 1 || !slices.Equal(whole[0], cellsOf(flat(64, 64, 5))) {
		t.Errorf("the clouds of the greatest image are %v, error %d", whole, e)
	}
}

func TestDarkCloudsAndShareOfRandomImages(t *testing.T) {
	rnd := rand.New(rand.NewSource(7))
	most := 0
	for range 2000 {
		m := randomImage(rnd, between(rnd, 1, 8), between(rnd, 1, 8), 6)
		limit := float32(between(rnd, 1, 6)) / 16
		dark, e := cloud.Dark(m, limit)
		expect.List(t, "Dark", dark, e, darkOf(m, limit), api.OK)
		clouds, e := cloud.Clouds(m, limit)
		if wanted := cloudsOf(m, limit); !sameClouds(clouds, wanted) || e != api.OK {
			t.Fatalf("Clouds %v %v: %v, error %d, want %v", m, limit, clouds, e, wanted)
		}
		most = max(most, len(clouds))
		share, e := cloud.Share(m, limit)
		if e != api.OK || share.Num*len(m.Samples) != len(dark)*share.Den || light.CheckRatio(share) != api.OK {
			t.Fatalf("Share %v %v: %v, error %d", m, limit, share, e)
		}
	}
	if most < 8 {
		t.Errorf("there were at most %d clouds", most)
	}
}

func TestCentre(t *testing.T) {
	greatest := slices.Repeat(points(100000, -100000), 4096)
	for _, x := range []struct {
		c    cloud.Cloud
		x, y api.Ratio
	}{
		{points(0, 0, 1, 0), ratio(1, 2), ratio(0, 1)}, {points(0, 0), ratio(0, 1), ratio(0, 1)}, {points(5, -7), ratio(5, 1), ratio(-7, 1)}, {points(0, 0, 1, 0, 1, 0), ratio(2, 3), ratio(0, 1)}, {points(3, 3, 1, 5, 2, 1), ratio(2, 1), ratio(3, 1)}, {points(-1, 4, -1, 4, 0, 5), ratio(-2, 3), ratio(13, 3)}, {points(100000, -100000, 99999, 100000), ratio(199999, 2), ratio(0, 1)}, {points(1, 1, 2, 2, 3, 3, 4, 4), ratio(5, 2), ratio(5, 2)}, {points(2, 1, 4, 1, 0, 4), ratio(2, 1), ratio(2, 1)},
		{greatest, ratio(100000, 1), ratio(-100000, 1)}, {append(slices.Clone(greatest[1:]), at(99999, 0)), ratio(409599999, 4096), ratio(-12796875, 128)},
	} {
		l, e := cloud.Centre(x.c)
		expect.Result(t, "Centre", l, e, [2]api.Ratio{x.x, x.y}, api.OK)
	}
}

func TestShare(t *testing.T) {
	for _, x := range []struct {
		m     light.Map
		limit float32
		r     api.Ratio
	}{
		{a(), 1, ratio(1, 6)}, {a(), 2, ratio(1, 6)}, {a(), 3, ratio(0, 1)}, {flat(3, 2, 1), 1, ratio(1, 1)}, {flat(64, 64, 1024), 1024, ratio(1, 1)}, {shown(), 1, ratio(11, 20)}, {shown(), 2, ratio(1, 4)}, {shown(), 3, ratio(1, 5)}, {drawn("0"), 1, ratio(0, 1)}, {drawn("110"), 1, ratio(2, 3)},
	} {
		r, e := cloud.Share(x.m, x.limit)
		expect.Result(t, "Share", r, e, x.r, api.OK)
	}
}

func TestPanel(t *testing.T) {
	for _, x := range []struct {
		m light.Map
		p [4]complex128
	}{
		{a(), [4]complex128{64, 32 - 32i, 0, 32 + 32i}}, {b(), [4]complex128{64, -32 - 32i, 0, -32 + 32i}}, {drawn("0"), [4]complex128{}}, {drawn("1"), [4]complex128{16, 16, 16, 16}}, {drawn("01"), [4]complex128{16, -16i, -16, 16i}}, {drawn("001"), [4]complex128{16, -16, 16, -16}}, {drawn("0001"), [4]complex128{16, 16i, -16, -16i}}, {drawn("00001"), [4]complex128{16, 16, 16, 16}}, {drawn("0", "1", "2"), [4]complex128{48, 48, 48, 48}}, {drawn("1234"), [4]complex128{160, -32 + 32i, -32, -32 - 32i}}, {drawn("00", "10", "03"), [4]complex128{64, 16 - 48i, -32, 16 + 48i}},
		{table(2, 1, 1, 0), [4]complex128{1, 1, 1, 1}}, {flat(4, 1, minusZero()), [4]complex128{}}, {flat(64, 64, 1024), [4]complex128{1 << 26, 0, 0, 0}}, {flat(1, 64, 1024), [4]complex128{1 << 20, 1 << 20, 1 << 20, 1 << 20}},
	} {
		p, e := cloud.Panel(x.m)
		expect.Result(t, "Panel", p, e, x.p, api.OK)
	}
}

func TestPanelOfRandomImages(t *testing.T) {
	rnd := rand.New(rand.NewSource(8))
	for range 300 {
		m := randomImage(rnd, between(rnd, 1, 64), between(rnd, 1, 64), 16384)
		p, e := cloud.Panel(m)
		expect.Result(t, "Panel", p, e, panelOf(m), api.OK)
	}
}
