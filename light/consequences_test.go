package light_test

import (
	"math/rand"
	"slices"
	"testing"

	"spillage/api"
	"spillage/expect"
	"spillage/light"
)

// P1.7, and P2 of the whole document

// cut returns some cuts from 0 to a length, ascending.
func cut(r *rand.Rand, length int) []int {
	cuts := []int{0}
	for n := 1; n < length; n++ {
		if r.Intn(3) == 0 {
			cuts = append(cuts, n)
		}
	}
	return append(cuts, length)
}

func TestPartsPlacedAndAddedAreTheMap(t *testing.T) {
	randoms(16384, func(r *rand.Rand, m light.Map) {
		sum, light1 := flat(m.Width, m.Height, 0), 0
		columns, rows := cut(r, m.Width), cut(r, m.Height)
		for i, x := range columns[1:] {
			for j, y := range rows[1:] {
				part, e := light.Part(m, span(columns[i], x), span(rows[j], y))
				expect.Err(t, "Part", e, api.OK)
				placed, e := light.Placed(part, m.Width, m.Height, at(columns[i], rows[j]))
				expect.Err(t, "Placed", e, api.OK)
				if total(t, placed) != total(t, part) {
					t.Fatal("Placed does not keep the light")
				}
				light1 += total(t, part)
				sum, e = light.Added(sum, placed)
				expect.Err(t, "Added", e, api.OK)
			}
		}
		if !sameMap(sum, m) || light1 != total(t, m) {
			t.Fatalf("the parts of %v are together %v", m, sum)
		}
	})
}

func TestFlipsAndTurns(t *testing.T) {
	randoms(16384, func(_ *rand.Rand, m light.Map) {
		ok := right(t)
		flipped := ok(light.Flipped(m))
		turned := ok(light.Turned(m))
		if total(t, flipped) != total(t, m) || total(t, turned) != total(t, m) {
			t.Fatal("a flip or a turn does not keep the light")
		}
		if !sameMap(ok(light.Flipped(flipped)), m) {
			t.Fatal("two flips change a map")
		}
		half := ok(light.Turned(turned))
		if !sameMap(ok(light.Turned(ok(light.Turned(half)))), m) {
			t.Fatal("four turns change a map")
		}
		if !sameMap(ok(light.Turned(ok(light.Flipped(turned)))), flipped) {
			t.Fatal("a turn, a flip and a turn are not a flip")
		}
	})
}

func TestSpreadKeepsTheLight(t *testing.T) {
	for share := range light.MaxShare + 1 {
		randoms(16000, func(_ *rand.Rand, m light.Map) {
			ok := right(t)
			spread := ok(light.Spread(m, share))
			if total(t, spread) != total(t, m) {
				t.Fatal("Spread does not keep the light")
			}
			if !sameMap(ok(light.Flipped(spread)), ok(light.Spread(ok(light.Flipped(m)), share))) {
				t.Fatal("Spread and Flipped depend on their order")
			}
			if !sameMap(ok(light.Turned(spread)), ok(light.Spread(ok(light.Turned(m)), share))) {
				t.Fatal("Spread and Turned depend on their order")
			}
		})
	}
}

func TestBinnedInTwoSteps(t *testing.T) {
	r := rand.New(rand.NewSource(7))
	ok := right(t)
	for a := 1; a <= 4; a++ {
		for b := 1; b <= 4; b++ {
			m := random(r, a*b*(1+r.Intn(4)), a*b*(1+r.Intn(4)), 64)
			once := ok(light.Binned(m, a*b))
			if total(t, once) != total(t, m) {
				t.Fatal("Binned does not keep the light")
			}
			if !sameMap(ok(light.Binned(ok(light.Binned(m, a)), b)), once) {
				t.Fatalf("Binned by %d and %d is not Binned by their product", a, b)
			}
		}
	}
}

func TestStreamsAndTextsComeBack(t *testing.T) {
	randoms(16384, func(_ *rand.Rand, m light.Map) {
		s, e := light.Pack(m)
		expect.Err(t, "Pack", e, api.OK)
		back, e := light.Unpack(s)
		wantMap(t, "Unpack", back, e, m)
		again, e := light.Pack(back)
		expect.Err(t, "Pack", e, api.OK)
		if !slices.Equal(s, again) {
			t.Fatal("the stream does not come back")
		}
		text, e := light.Print(m)
		expect.Err(t, "Print", e, api.OK)
		back, _, e = light.Parse(text)
		wantMap(t, "Parse", back, e, m)
		printed, e := light.Print(back)
		expect.Err(t, "Print", e, api.OK)
		if text != printed {
			t.Fatal("the text does not come back")
		}
	})
}

// markless reports whether the byte Mark stands only at the beginning of a frame.
func markless(f [24]byte) bool {
	return !slices.Contains(f[1:], byte(light.Mark))
}

// TestUndamagedFramesAreReceived puts frames, damaged frames and other bytes into streams, without a Mark where no frame begins.
func TestUndamagedFramesAreReceived(t *testing.T) {
	r := rand.New(rand.NewSource(8))
	for range 50 {
		var s []byte
		var sent []light.Telegram
		for range 60 {
			x := light.Telegram{Station: r.Intn(256), Counter: r.Intn(65536), Order: r.Intn(256), Vector: api.Vector{X: r.Intn(2000001) - 1000000, Y: r.Intn(100), Z: -r.Intn(9)}}
			f := frame(t, x)
			if !markless(f) {
				continue
			}
			switch r.Intn(4) {
			case 0:
				s = append(s, f[:1+r.Intn(23)]...)
			case 1:
				f[1+r.Intn(23)] ^= 128
				if !markless(f) {
					continue
				}
				s = append(s, f[:]...)
			default:
				s = append(s, f[:]...)
				sent = append(sent, x)
			}
		}
		l, spans, e := light.Received(s)
		expect.Err(t, "Received", e, api.OK)
		if !slices.Equal(l, sent) {
			t.Fatalf("received %d telegrams of %d", len(l), len(sent))
		}
		skipped := len(s) - 24*len(sent)
		for i, x := range spans {
			skipped -= x.To - x.From
			if x.From >= x.To || i > 0 && spans[i-1].To >= x.From {
				t.Fatalf("the spans %v are not ascending, or touch", spans)
			}
		}
		if skipped != 0 {
			t.Fatalf("%d bytes are neither received nor skipped", skipped)
		}
	}
}
