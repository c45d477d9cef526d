package drive_test

import (
	"math"
	"math/rand"
	"slices"
	"testing"

	"spillage/api"
	"spillage/drive"
	"spillage/expect"
	"spillage/light"
)

// P3.4

// wantVote checks the three results of a vote.
func wantVote(t *testing.T, l [3]int, limit, vote, index int, wanted api.Errno) {
	t.Helper()
	got, i, e := drive.Voted(l, limit)
	if got != vote || i != index || e != wanted {
		t.Errorf("Voted %v by %d: %d, encoder %d, error %d, want %d, encoder %d, error %d", l, limit, got, i, e, vote, index, wanted)
	}
}

func TestVoted(t *testing.T) {
	for _, x := range []struct {
		l                  [3]int
		limit, vote, index int
	}{
		{[3]int{10, 50, 12}, 5, 12, 1}, {[3]int{10, 50, 12}, 2, 12, 1}, {[3]int{10, 13, 16}, 5, 13, -1}, {[3]int{10, 13, 16}, 3, 13, -1}, {[3]int{16, 10, 13}, 3, 13, -1}, {[3]int{-30, 13, 16}, 5, 13, 0}, {[3]int{13, -30, 16}, 5, 13, 1}, {[3]int{16, 13, -30}, 5, 13, 2}, {[3]int{50, 10, 12}, 5, 12, 0}, {[3]int{12, 10, 50}, 5, 12, 2},
		{[3]int{7, 7, 7}, 0, 7, -1}, {[3]int{7, 7, 8}, 0, 7, 2}, {[3]int{7, 8, 7}, 0, 7, 1}, {[3]int{8, 7, 7}, 0, 7, 0}, {[3]int{6, 7, 7}, 0, 7, 0}, {[3]int{7, 6, 7}, 0, 7, 1}, {[3]int{7, 7, 6}, 0, 7, 2}, {[3]int{7, 7, 8}, 1, 7, -1}, {[3]int{10, 16, 13}, 5, 13, -1}, {[3]int{0, 5, 11}, 5, 5, 2}, {[3]int{0, 6, 11}, 5, 6, 0},
		{[3]int{-1000, 0, 1000}, 1000, 0, -1}, {[3]int{-1000, 1, 1000}, 1000, 1, 0}, {[3]int{-1000, -1, 1000}, 1000, -1, 2}, {[3]int{-1000, 1000, -1000}, 0, -1000, 1}, {[3]int{0, 0, 0}, 1000, 0, -1},
	} {
		wantVote(t, x.l, x.limit, x.vote, x.index, api.OK)
	}
	for _, x := range []struct {
		l     [3]int
		limit int
	}{{[3]int{10, 50, 12}, 1}, {[3]int{10, 13, 16}, 2}, {[3]int{1, 2, 3}, 0}, {[3]int{3, 1, 2}, 0}, {[3]int{-1000, 0, 1000}, 999}} {
		wantVote(t, x.l, x.limit, 0, 0, api.ErrNone)
	}
	for _, n := range expect.Outside(-1000, 1000) {
		for _, l := range [][3]int{{n, 0, 0}, {0, n, 0}, {0, 0, n}, {n, n, n}, {0, 500, n}} {
			wantVote(t, l, 5, 0, 0, api.ErrRange)
			wantVote(t, l, -1, 0, 0, api.ErrRange)
		}
	}
	for _, n := range append(expect.Outside(0, 1000), -1) {
		wantVote(t, [3]int{10, 50, 12}, n, 0, 0, api.ErrRange)
		wantVote(t, [3]int{10, 10, 10}, n, 0, 0, api.ErrRange)
	}
}

func TestVotedOfAllOrders(t *testing.T) {
	r := rand.New(rand.NewSource(35))
	for range 3000 {
		l := [3]int{between(r, -9, 9), between(r, -9, 9), between(r, -9, 9)}
		limit := r.Intn(8)
		sorted := slices.Sorted(slices.Values(l[:]))
		a, b, c := sorted[0], sorted[1], sorted[2]
		switch {
		case b-a > limit && c-b > limit:
			wantVote(t, l, limit, 0, 0, api.ErrNone)
		case b-a <= limit && c-b <= limit:
			wantVote(t, l, limit, b, -1, api.OK)
		case b-a <= limit:
			wantVote(t, l, limit, b, slices.Index(l[:], c), api.OK)
		default:
			wantVote(t, l, limit, b, slices.Index(l[:], a), api.OK)
		}
	}
}

func TestOverloads(t *testing.T) {
	l := []float32{1, 5, 6, 2, 7}
	zero := float32(math.Copysign(0, -1))
	most := make([]float32, 4096)
	for _, x := range []struct {
		l     []float32
		limit float32
		least int
		spans []api.Span
	}{
		{l, 4, 2, []api.Span{span(1, 3)}}, {l, 4, 1, []api.Span{span(1, 3), span(4, 5)}}, {l, 5, 1, []api.Span{span(2, 3), span(4, 5)}}, {l, 4, 3, nil}, {l, 7, 1, nil}, {l, 0, 5, []api.Span{span(0, 5)}}, {l, 0, 6, nil}, {l, 1, 4, []api.Span{span(1, 5)}}, {l, 4.9375, 2, []api.Span{span(1, 3)}}, {l, -1024, 1, []api.Span{span(0, 5)}}, {l, 1024, 1, nil}, {l, 6, 1, []api.Span{span(4, 5)}}, {l, 0.9375, 1, []api.Span{span(0, 5)}},
		{nil, 0, 1, nil}, {[]float32{}, 0, 4096, nil}, {[]float32{0}, 0, 1, nil}, {[]float32{0.0625}, zero, 1, []api.Span{span(0, 1)}}, {[]float32{zero, 0, zero}, -0.0625, 3, []api.Span{span(0, 3)}}, {[]float32{zero, 0}, 0, 1, nil}, {[]float32{0, zero}, zero, 1, nil}, {[]float32{1024, -1024, 1024}, 1023.9375, 1, []api.Span{span(0, 1), span(2, 3)}},
		{most, -1, 4096, []api.Span{span(0, 4096)}}, {[]float32{9, 9, 0, 9, 9, 9, 0, 9}, 1, 2, []api.Span{span(0, 2), span(3, 6)}}, {[]float32{9, 9, 0, 9, 9, 9, 0, 9}, 1, 3, []api.Span{span(3, 6)}},
	} {
		spans, e := drive.Overloads(x.l, x.limit, x.least)
		expect.List(t, "Overloads", spans, e, x.spans, api.OK)
	}
}

// wrongSamples are numbers that are no samples.
func wrongSamples() []float32 {
	inf := math.Inf(1)
	return []float32{float32(math.NaN()), float32(inf), float32(-inf), 1024.0625, -1024.0625, 0.03125, 1e-40, math.MaxFloat32}
}

func TestOverloadsWithErrors(t *testing.T) {
	for _, x := range wrongSamples() {
		wanted := light.CheckSample(x)
		spans, e := drive.Overloads([]float32{1, x, 5}, 4, 1)
		expect.List(t, "Overloads of a wrong current", spans, e, nil, wanted)
		for _, y := range wrongSamples() {
			spans, e = drive.Overloads([]float32{1, x, y}, y, 0)
			expect.List(t, "Overloads with more errors", spans, e, nil, wanted)
		}
		spans, e = drive.Overloads([]float32{1, 5}, x, 1)
		expect.List(t, "Overloads of a wrong limit", spans, e, nil, wanted)
		spans, e = drive.Overloads(nil, x, 0)
		expect.List(t, "Overloads of a wrong limit and number", spans, e, nil, wanted)
		spans, e = drive.Overloads(slices.Repeat([]float32{x}, 4097), x, 0)
		expect.List(t, "Overloads of too many wrong currents", spans, e, nil, api.ErrMany)
	}
	spans, e := drive.Overloads(make([]float32, 4097), 0, 1)
	expect.List(t, "Overloads of too many currents", spans, e, nil, api.ErrMany)
	for _, n := range append(expect.Outside(1, 4096), -1) {
		spans, e = drive.Overloads([]float32{1, 5}, 4, n)
		expect.List(t, "Overloads of a wrong number", spans, e, nil, api.ErrRange)
		spans, e = drive.Overloads(nil, 4, n)
		expect.List(t, "Overloads of nothing, with a wrong number", spans, e, nil, api.ErrRange)
	}
}
