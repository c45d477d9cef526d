package common_test

import (
	"slices"
	"testing"

	"spillage/api"
	"spillage/common"
)

func TestChecks(t *testing.T) {
	for _, x := range []struct{ got, wanted api.Errno }{
		{common.First(), api.OK}, {common.First(api.OK, api.OK), api.OK}, {common.First(api.OK, api.ErrZero, api.ErrForm), api.ErrZero},
		{common.When(true, api.ErrName), api.ErrName}, {common.When(false, api.ErrName), api.OK},
		{common.CheckRange(1, 1, 3), api.OK}, {common.CheckRange(3, 1, 3), api.OK}, {common.CheckRange(0, 1, 3), api.ErrRange}, {common.CheckRange(4, 1, 3), api.ErrRange},
	} {
		if x.got != x.wanted {
			t.Errorf("got error %d, want %d", x.got, x.wanted)
		}
	}
}

func TestMapped(t *testing.T) {
	twice := func(n int) int { return 2 * n }
	if l := common.Mapped([]int{3, 1, 2}, twice); !slices.Equal(l, []int{6, 2, 4}) {
		t.Errorf("Mapped: %v", l)
	}
	if l := common.Mapped(nil, twice); len(l) != 0 {
		t.Errorf("Mapped of nothing: %v", l)
	}
}

func TestDivisor(t *testing.T) {
	for _, x := range [][3]int{{12, 18, 6}, {18, 12, 6}, {4, -6, 2}, {-4, 6, 2}, {-4, -6, 2}, {0, 5, 5}, {5, 0, 5}, {0, -5, 5}, {-5, 0, 5}, {0, 0, 0}, {7, 9, 1}, {-1, 1 << 40, 1}} {
		if n := common.Divisor(x[0], x[1]); n != x[2] {
			t.Errorf("Divisor %d %d: %d, want %d", x[0], x[1], n, x[2])
		}
	}
}

func TestExtended(t *testing.T) {
	var l []api.Span
	for _, n := range []int{2, 3, 5, 6, 7, 9} {
		l = common.Extended(l, n)
	}
	if !slices.Equal(l, []api.Span{{From: 2, To: 4}, {From: 5, To: 8}, {From: 9, To: 10}}) {
		t.Errorf("Extended: %v", l)
	}
}
