package light_test

import (
	"math/rand"
	"testing"

	"spillage/api"
	"spillage/expect"
	"spillage/light"
)

// P1.4

func TestFour(t *testing.T) {
	for _, x := range []struct {
		l [4]float32
		p [4]complex64
	}{
		{[4]float32{1, 2, 3, 4}, [4]complex64{10, -2 + 2i, -2, -2 - 2i}},
		{[4]float32{}, [4]complex64{}},
		{[4]float32{1, 0, 0, 0}, [4]complex64{1, 1, 1, 1}},
		{[4]float32{0, 1, 0, 0}, [4]complex64{1, -1i, -1, 1i}},
		{[4]float32{0, 0, 1, 0}, [4]complex64{1, -1, 1, -1}},
		{[4]float32{0, 0, 0, 1}, [4]complex64{1, 1i, -1, -1i}},
		{[4]float32{1024, 1024, 1024, 1024}, [4]complex64{4096, 0, 0, 0}},
		{[4]float32{1024, -1024, 1024, -1024}, [4]complex64{0, 0, 4096, 0}},
		{[4]float32{-1024, -1024, -1024, -1024}, [4]complex64{-4096, 0, 0, 0}},
		{[4]float32{0.0625, 0, 0, -0.0625}, [4]complex64{0, 0.0625 - 0.0625i, 0.125, 0.0625 + 0.0625i}},
		{[4]float32{1024, 1023.9375, -1024, 0.0625}, [4]complex64{1024, 2048 - 1023.875i, -1024, 2048 + 1023.875i}},
	} {
		p, e := light.Four(x.l)
		if p != x.p || e != api.OK {
			t.Errorf("Four %v: %v, %d, want %v", x.l, p, e, x.p)
		}
		l, e := light.Unfour(x.p)
		if l != x.l || e != api.OK {
			t.Errorf("Unfour %v: %v, %d, want %v", x.p, l, e, x.l)
		}
	}
}

func TestFourWithErrors(t *testing.T) {
	for _, x := range []struct {
		l [4]float32
		e api.Errno
	}{
		{[4]float32{nan()}, api.ErrForm}, {[4]float32{0, 0, 0, inf(1)}, api.ErrForm}, {[4]float32{0, inf(-1)}, api.ErrForm},
		{[4]float32{1024.0625}, api.ErrRange}, {[4]float32{0, 0, 0, -1024.0625}, api.ErrRange}, {[4]float32{0, 0, 0.03125}, api.ErrRange},
		{[4]float32{0, 2000, nan()}, api.ErrRange}, {[4]float32{0, nan(), 2000}, api.ErrForm},
	} {
		p, e := light.Four(x.l)
		if e != x.e || p != [4]complex64{} {
			t.Errorf("Four %v: %v, %d, want %d", x.l, p, e, x.e)
		}
	}
}

func TestUnfourWithErrors(t *testing.T) {
	for _, x := range []struct {
		p [4]complex64
		e api.Errno
	}{
		{[4]complex64{complex(nan(), 0)}, api.ErrForm}, {[4]complex64{complex(0, nan())}, api.ErrForm},
		{[4]complex64{0, 0, 0, complex(inf(1), 0)}, api.ErrForm}, {[4]complex64{0, complex(0, inf(-1))}, api.ErrForm},
		{[4]complex64{complex(5000, nan())}, api.ErrForm}, {[4]complex64{complex(nan(), 5000)}, api.ErrForm},
		{[4]complex64{5000, complex(nan(), 0)}, api.ErrRange}, {[4]complex64{5000i, complex(0, inf(1))}, api.ErrRange},
		{[4]complex64{0, complex(nan(), 0), 5000}, api.ErrForm},
		{[4]complex64{4096.0625}, api.ErrRange}, {[4]complex64{-4096.0625}, api.ErrRange}, {[4]complex64{4096.0625i}, api.ErrRange},
		{[4]complex64{0, 0, 0, -4096.0625i}, api.ErrRange}, {[4]complex64{0.03125}, api.ErrRange}, {[4]complex64{0, 0, 0.03125i}, api.ErrRange},
		{[4]complex64{1e30}, api.ErrRange}, {[4]complex64{1, 1, 1, 1e-40}, api.ErrRange},
		{[4]complex64{0.0625}, api.ErrForm}, {[4]complex64{0.125}, api.ErrForm}, {[4]complex64{0, 1}, api.ErrForm}, {[4]complex64{1i}, api.ErrForm},
		{[4]complex64{0, 1i, 0, 1i}, api.ErrForm}, {[4]complex64{0, 1, 0, -1}, api.ErrForm}, {[4]complex64{0, 0, 1i}, api.ErrForm},
		{[4]complex64{4096i}, api.ErrForm}, {[4]complex64{0, 0, 0, -4096i}, api.ErrForm}, {[4]complex64{0, -4096, 0, 4096}, api.ErrForm},
		{[4]complex64{4096, 4096, 4096, 4096}, api.ErrForm}, {[4]complex64{-4096, -4096, -4096, -4096}, api.ErrForm},
		{[4]complex64{4096, 0, 0.25, 0}, api.ErrForm}, {[4]complex64{1024, 1024, 1024, 1024.25}, api.ErrForm},
		{[4]complex64{1, 1, 1, 1 + 0.25i}, api.ErrForm}, {[4]complex64{10, -2 - 2i, -2, -2 - 2i}, api.ErrForm},
	} {
		l, e := light.Unfour(x.p)
		if e != x.e || l != [4]float32{} {
			t.Errorf("Unfour %v: %v, %d, want %d", x.p, l, e, x.e)
		}
	}
	l, e := light.Unfour([4]complex64{0.25})
	if l != [4]float32{0.0625, 0.0625, 0.0625, 0.0625} || e != api.OK {
		t.Errorf("Unfour of a quarter: %v, %d", l, e)
	}
}

// TestUnfourOfNearPanels changes a part of a right panel by a sixteenth, so that the change of each sample is no sixteenth.
func TestUnfourOfNearPanels(t *testing.T) {
	r := rand.New(rand.NewSource(4))
	for range 200 {
		var l [4]float32
		for i := range l {
			l[i] = float32(r.Intn(32769)-16384) / 16
		}
		p, e := light.Four(l)
		expect.Err(t, "Four", e, api.OK)
		back, e := light.Unfour(p)
		if back != l || e != api.OK {
			t.Fatalf("Unfour of the transform of %v: %v, %d", l, back, e)
		}
		for k := range p {
			for _, d := range []complex64{0.0625, 0.0625i} {
				q := p
				q[k] -= d
				_, e := light.Unfour(q)
				if e != api.ErrForm && e != api.ErrRange {
					t.Fatalf("Unfour of %v: %d", q, e)
				}
			}
		}
	}
}
