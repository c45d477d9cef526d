package common_test

import (
	"math"
	"testing"

	"spillage/api"
	"spillage/common"
)

func TestCheckPoint(t *testing.T) {
	for _, x := range []struct {
		p api.Point
		e api.Errno
	}{
		{api.Point{}, api.OK}, {api.Point{X: -2, Y: 3}, api.OK}, {api.Point{X: 3, Y: -2}, api.OK}, {api.Point{X: -3}, api.ErrRange}, {api.Point{X: 4}, api.ErrRange}, {api.Point{Y: -3}, api.ErrRange}, {api.Point{Y: 4}, api.ErrRange}, {api.Point{X: math.MinInt, Y: math.MaxInt}, api.ErrRange},
	} {
		if e := common.CheckPoint(x.p, -2, 3); e != x.e {
			t.Errorf("CheckPoint %v: error %d, want %d", x.p, e, x.e)
		}
	}
}

func TestPoints(t *testing.T) {
	p, q := api.Point{X: 1, Y: 2}, api.Point{X: -5, Y: 7}
	if r := common.Plus(p, q); r != (api.Point{X: -4, Y: 9}) {
		t.Errorf("Plus: %v", r)
	}
	if r := common.Minus(p, q); r != (api.Point{X: 6, Y: -5}) {
		t.Errorf("Minus: %v", r)
	}
	if l := common.Beside(q); l != [4]api.Point{{X: -6, Y: 7}, {X: -4, Y: 7}, {X: -5, Y: 6}, {X: -5, Y: 8}} {
		t.Errorf("Beside: %v", l)
	}
}

func TestLeft(t *testing.T) {
	at := func(x, y int) api.Point { return api.Point{X: x, Y: y} }
	for _, x := range []struct {
		from, to, p api.Point
		n           int
	}{
		{at(0, 0), at(4, 0), at(1, 2), 8}, {at(0, 0), at(4, 0), at(1, -2), -8}, {at(4, 0), at(0, 0), at(1, 2), -8}, {at(0, 0), at(4, 0), at(9, 0), 0}, {at(1, 1), at(3, 5), at(2, 3), 0}, {at(1, 1), at(3, 5), at(2, 4), 2}, {at(1, 1), at(3, 5), at(3, 3), -4}, {at(2, 2), at(2, 2), at(7, 1), 0}, {at(-100000, -100000), at(100000, 100000), at(-100000, 100000), 40000000000},
	} {
		if n := common.Left(x.from, x.to, x.p); n != x.n {
			t.Errorf("Left of %v to %v: %v is %d, want %d", x.from, x.to, x.p, n, x.n)
		}
	}
}
