package common_test

import (
	"math"
	"slices"
	"testing"

	"spillage/api"
	"spillage/common"
)

func TestChecks(t *testing.T) {
	for _, x := range []struct{ got, wanted api.Errno }{
		{common.First(), api.OK}, {common.First(api.OK, api.OK), api.OK}, {common.First(api.OK, api.ErrZero, api.ErrForm), api.ErrZero},
		{common.When(true, api.ErrName), api.ErrName}, {common.When(false, api.ErrName), api.OK},
		{common.CheckRange(1, 1, 3), api.OK}, {common.CheckRange(3, 1, 3), api.OK}, {common.CheckRange(0, 1, 3), api.ErrRange}, {common.CheckRange(4, 1, 3), api.ErrRange},
		{common.CheckLength(0, 3), api.ErrEmpty}, {common.CheckLength(1, 3), api.OK}, {common.CheckLength(3, 3), api.OK}, {common.CheckLength(4, 3), api.ErrMany},
	} {
		if x.got != x.wanted {
			t.Errorf("got error %d, want %d", x.got, x.wanted)
		}
	}
}

func TestCheckList(t *testing.T) {
	check := func(n int) api.Errno { return api.Errno(n) }
	for _, x := range []struct {
		l []int
		e api.Errno
	}{{nil, api.OK}, {[]int{0}, api.OK}, {[]int{0, 0, 0}, api.OK}, {[]int{0, 3, 7}, api.ErrRange}, {[]int{7, 3, 0}, api.ErrNone}, {[]int{0, 0, 7}, api.ErrNone}, {[]int{0, 0, 0, 0}, api.ErrMany}, {[]int{7, 7, 7, 7}, api.ErrMany}} {
		if e := common.CheckList(x.l, 3, check); e != x.e {
			t.Errorf("CheckList %v: error %d, want %d", x.l, e, x.e)
		}
	}
}

func TestCheckDistinct(t *testing.T) {
	check := func(s string) api.Errno { return common.When(s[0] == '-', api.ErrForm) }
	name := func(s string) string { return s[1:] }
	for _, x := range []struct {
		l []string
		e api.Errno
	}{
		{nil, api.OK}, {[]string{"+a"}, api.OK}, {[]string{"+a", "*b", "+c"}, api.OK}, {[]string{"+a", "+b", "+c", "+d"}, api.ErrMany}, {[]string{"-a", "+b", "+c", "+d"}, api.ErrMany}, {[]string{"+a", "*a"}, api.ErrTwice}, {[]string{"+a", "+b", "*a"}, api.ErrTwice},
		{[]string{"+a", "+a", "-b"}, api.ErrTwice}, {[]string{"+a", "-a"}, api.ErrForm}, {[]string{"+a", "-b", "+a"}, api.ErrForm}, {[]string{"-a"}, api.ErrForm}, {[]string{"+", "+"}, api.ErrTwice},
	} {
		if e := common.CheckDistinct(x.l, 3, check, name); e != x.e {
			t.Errorf("CheckNamed %q: error %d, want %d", x.l, e, x.e)
		}
	}
}

// TestCheckDistinctOfLaterChecks checks that they come behind the keys, in their order, and before the next element.
func TestCheckDistinctOfLaterChecks(t *testing.T) {
	check := func(x [2]int) api.Errno { return common.When(x[0] < 0, api.ErrForm) }
	key := func(x [2]int) [2]int { return [2]int{x[0], x[1] % 10} }
	small := func(x [2]int) api.Errno { return common.When(x[1] > 20, api.ErrLarge) }
	even := func(x [2]int) api.Errno { return common.When(x[1]%2 == 1, api.ErrShape) }
	for _, x := range []struct {
		l [][2]int
		e api.Errno
	}{
		{nil, api.OK}, {[][2]int{{1, 2}, {1, 4}, {2, 2}}, api.OK}, {[][2]int{{1, 2}, {1, 12}}, api.ErrTwice}, {[][2]int{{1, 2}, {1, 22}}, api.ErrTwice}, {[][2]int{{1, 2}, {-1, 23}}, api.ErrForm}, {[][2]int{{1, 2}, {1, 23}}, api.ErrLarge}, {[][2]int{{1, 2}, {1, 13}}, api.ErrShape}, {[][2]int{{1, 3}, {1, 3}}, api.ErrShape}, {[][2]int{{1, 22}, {-1, 3}}, api.ErrLarge}, {[][2]int{{1, 2}, {1, 4}, {1, 6}, {-1, 3}}, api.ErrMany},
	} {
		if e := common.CheckDistinct(x.l, 3, check, key, small, even); e != x.e {
			t.Errorf("CheckDistinct %v: error %d, want %d", x.l, e, x.e)
		}
	}
}

func TestCheckAscending(t *testing.T) {
	check := func(n int) api.Errno { return common.When(n%10 == 0, api.ErrZero) }
	isBelow := func(a, b int) bool { return a/10 < b/10 }
	for _, x := range []struct {
		l []int
		e api.Errno
	}{
		{nil, api.OK}, {[]int{-5}, api.OK}, {[]int{5, 15, 25}, api.OK}, {[]int{0}, api.ErrZero}, {[]int{5, 7}, api.ErrOrder}, {[]int{15, 5}, api.ErrOrder}, {[]int{5, 15, 14}, api.ErrOrder}, {[]int{5, 15, 10}, api.ErrZero}, {[]int{5, 6, 20}, api.ErrOrder}, {[]int{5, 20, 6}, api.ErrZero}, {[]int{10, 5}, api.ErrZero}, {[]int{5, 15, 25, 25}, api.ErrOrder},
	} {
		if e := common.CheckAscending(x.l, check, isBelow); e != x.e {
			t.Errorf("CheckAscending %v: error %d, want %d", x.l, e, x.e)
		}
	}
}

func TestFolded(t *testing.T) {
	join := func(a, b string) string { return a + b + "." }
	for _, x := range []struct {
		l []string
		s string
	}{{nil, ""}, {[]string{"a"}, "a."}, {[]string{"a", "b", "c"}, "a.b.c."}} {
		if s := common.Folded(x.l, join); s != x.s {
			t.Errorf("Folded %q: %q, want %q", x.l, s, x.s)
		}
	}
}

func TestIntervals(t *testing.T) {
	at := func(low, high int) api.Interval { return api.Interval{Low: low, High: high} }
	for _, x := range []struct {
		x api.Interval
		e api.Errno
	}{
		{at(-2, 3), api.OK}, {at(0, 0), api.OK}, {at(3, 3), api.OK}, {at(-2, -2), api.OK}, {at(1, 0), api.ErrOrder}, {at(3, -2), api.ErrOrder},
		{at(-3, 3), api.ErrRange}, {at(-2, 4), api.ErrRange}, {at(4, 3), api.ErrRange}, {at(0, -3), api.ErrRange},
	} {
		if e := common.CheckInterval(x.x, -2, 3); e != x.e {
			t.Errorf("CheckInterval %v: error %d, want %d", x.x, e, x.e)
		}
	}
	for _, x := range [][3]api.Interval{{at(0, 5), at(3, 9), at(3, 5)}, {at(3, 9), at(0, 5), at(3, 5)}, {at(0, 9), at(2, 4), at(2, 4)}, {at(0, 2), at(2, 4), at(2, 2)}} {
		if got := common.Shared(x[0], x[1]); got != x[2] {
			t.Errorf("Shared %v %v: %v, want %v", x[0], x[1], got, x[2])
		}
	}
	if x := common.Shared(at(0, 1), at(2, 3)); x.Low <= x.High {
		t.Errorf("Shared of nothing: %v", x)
	}
}

func TestLength(t *testing.T) {
	for _, x := range [][3]int{{0, 0, 1}, {-2, 3, 6}, {5, 4, 0}, {-9, -8, 2}} {
		if n := common.Length(api.Interval{Low: x[0], High: x[1]}); n != x[2] {
			t.Errorf("Length %d to %d: %d", x[0], x[1], n)
		}
	}
}

func TestMapped(t *testing.T) {
	twice := func(n int) int { return 2 * n }
	if l := common.Mapped([]int{3, 1, 2}, twice); !slices.Equal(l, []int{6, 2, 4}) {
		t.Errorf("Mapped: %v", l)
	}
	if l := common.Mapped(nil, twice); len(l) != 0 {
		t.Errorf("Mapped of nothing: %v", l)
	}
}

func TestDivisor(t *testing.T) {
	for _, x := range [][3]int{{12, 18, 6}, {18, 12, 6}, {4, -6, 2}, {-4, 6, 2}, {-4, -6, 2}, {0, 5, 5}, {5, 0, 5}, {0, -5, 5}, {-5, 0, 5}, {0, 0, 0}, {7, 9, 1}, {-1, 1 << 40, 1}} {
		if n := common.Divisor(x[0], x[1]); n != x[2] {
			t.Errorf("Divisor %d %d: %d, want %d", x[0], x[1], n, x[2])
		}
	}
}

func TestSign(t *testing.T) {
	for _, x := range [][2]int{{0, 0}, {1, 1}, {-1, -1}, {7, 1}, {-7, -1}, {math.MaxInt, 1}, {math.MinInt, -1}} {
		if n := common.Sign(x[0]); n != x[1] {
			t.Errorf("Sign %d: %d, want %d", x[0], n, x[1])
		}
	}
}

func TestQuotient(t *testing.T) {
	for _, x := range [][4]int{{6, 4, 3, 2}, {-6, 4, -3, 2}, {6, -4, -3, 2}, {-6, -4, 3, 2}, {0, 5, 0, 1}, {0, -5, 0, 1}, {7, 7, 1, 1}, {8, 2, 4, 1}, {1 << 60, 1 << 59, 2, 1}, {999, 1000, 999, 1000}} {
		if q := common.Quotient(x[0], x[1]); q != (api.Ratio{Num: x[2], Den: x[3]}) {
			t.Errorf("Quotient %d %d: %v, want %d / %d", x[0], x[1], q, x[2], x[3])
		}
	}
}

func TestRounding(t *testing.T) {
	for _, x := range []struct{ a, b, lowered, raised, rounded int }{
		{0, 3, 0, 0, 0}, {7, 1, 7, 7, 7}, {-7, 1, -7, -7, -7}, {6, 3, 2, 2, 2}, {-6, 3, -2, -2, -2}, {7, 3, 2, 3, 2}, {-7, 3, -3, -2, -2}, {8, 3, 2, 3, 3}, {-8, 3, -3, -2, -3}, {1, 2, 0, 1, 1}, {-1, 2, -1, 0, 0}, {3, 2, 1, 2, 2}, {-3, 2, -2, -1, -1}, {1, 4, 0, 1, 0}, {-1, 4, -1, 0, 0}, {1 << 40, 1<<40 + 1, 0, 1, 1}, {-1 << 40, 1<<40 + 1, -1, 0, -1},
	} {
		if n := common.Lowered(x.a, x.b); n != x.lowered {
			t.Errorf("Lowered %d %d: %d, want %d", x.a, x.b, n, x.lowered)
		}
		if n := common.Raised(x.a, x.b); n != x.raised {
			t.Errorf("Raised %d %d: %d, want %d", x.a, x.b, n, x.raised)
		}
		if n := common.Rounded(x.a, x.b); n != x.rounded {
			t.Errorf("Rounded %d %d: %d, want %d", x.a, x.b, n, x.rounded)
		}
	}
}

func TestExtended(t *testing.T) {
	var l []api.Span
	for _, n := range []int{2, 3, 5, 6, 7, 9} {
		l = common.Extended(l, n)
	}
	if !slices.Equal(l, []api.Span{{From: 2, To: 4}, {From: 5, To: 8}, {From: 9, To: 10}}) {
		t.Errorf("Extended: %v", l)
	}
}
