package common_test

import (
	"math"
	"testing"

	"spillage/api"
	"spillage/common"
)

func TestParts(t *testing.T) {
	p, q := common.Parts{1, 2, 3}, common.Parts{4, -5, 6}
	for _, x := range []struct {
		what        string
		got, wanted common.Parts
	}{
		{"PartsOf", common.PartsOf(api.Vector{X: 1, Y: 2, Z: 3}), p}, {"Cross", p.Cross(q), common.Parts{27, 6, -13}}, {"Cross, the other way", q.Cross(p), common.Parts{-27, -6, 13}}, {"Cross with itself", p.Cross(p), common.Parts{}},
		{"Times", p.Times(-2), common.Parts{-2, -4, -6}}, {"Times 0", p.Times(0), common.Parts{}}, {"Plus", p.Plus(q), common.Parts{5, -3, 9}},
		{"Reduced", common.Parts{6, -9, 12}.Reduced(), common.Parts{2, -3, 4}}, {"Reduced of one part", common.Parts{0, -5, 0}.Reduced(), common.Parts{0, -1, 0}}, {"Reduced of none in common", q.Reduced(), q},
	} {
		if x.got != x.wanted {
			t.Errorf("%s: %v, want %v", x.what, x.got, x.wanted)
		}
	}
	if n := p.Dot(q); n != 12 {
		t.Errorf("Dot: %d", n)
	}
	if v := q.Vector(); v != (api.Vector{X: 4, Y: -5, Z: 6}) {
		t.Errorf("Vector: %v", v)
	}
	if p != (common.Parts{1, 2, 3}) || q != (common.Parts{4, -5, 6}) {
		t.Errorf("the parts have changed: %v %v", p, q)
	}
	if east, north, up := p[common.East], p[common.North], p[common.Up]; east != 1 || north != 2 || up != 3 {
		t.Errorf("the parts are %d, %d and %d", east, north, up)
	}
}

func TestCheckVector(t *testing.T) {
	for _, n := range []int{-7, -1, 0, 1, 7} {
		for _, v := range []api.Vector{{X: n, Y: 1}, {Y: n, Z: 7}, {X: -7, Z: n}} {
			if e := common.CheckVector(v, 7); e != api.OK {
				t.Errorf("CheckVector %v: error %d", v, e)
			}
			if e := common.CheckDirection(v, 7); e != api.OK {
				t.Errorf("CheckDirection %v: error %d", v, e)
			}
		}
	}
	for _, n := range []int{-8, 8, math.MinInt, math.MaxInt} {
		for _, v := range []api.Vector{{X: n}, {Y: n}, {Z: n}} {
			if e := common.CheckVector(v, 7); e != api.ErrRange {
				t.Errorf("CheckVector %v: error %d", v, e)
			}
			if e := common.CheckDirection(v, 7); e != api.ErrRange {
				t.Errorf("CheckDirection %v: error %d", v, e)
			}
		}
	}
	if e := common.CheckVector(api.Vector{}, 7); e != api.OK {
		t.Errorf("CheckVector of nothing: error %d", e)
	}
	if e := common.CheckDirection(api.Vector{}, 7); e != api.ErrZero {
		t.Errorf("CheckDirection of nothing: error %d", e)
	}
}
