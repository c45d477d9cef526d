package light_test

import (
	"math"
	"math/rand"
	"slices"
	"testing"

	"spillage/api"
	"spillage/expect"
	"spillage/light"
)

// P1.5

// checksum is that of the chapter: 277 and 1 are 278 for the byte 1.
func checksum(s []byte) uint64 {
	x := uint64(1)
	for _, b := range s {
		x = (277*x + uint64(b)) % 16777199
	}
	return x
}

// sealed puts the right checksum at the end of bytes that have room for it.
func sealed(s []byte) []byte {
	out := slices.Clone(s)
	body := len(out) - 4
	x := checksum(out[:body])
	for i := range 4 {
		out[body+i] = byte(x >> (24 - 8*i))
	}
	return out
}

func sealedFrame(f [24]byte) [24]byte { return [24]byte(sealed(f[:])) }

// frame returns the frame of a right telegram.
func frame(t *testing.T, x light.Telegram) [24]byte {
	t.Helper()
	f, e := light.Encode(x)
	expect.Err(t, "Encode", e, api.OK)
	return f
}

// example is the telegram of the chapter's example.
func example() light.Telegram {
	return light.Telegram{Station: 1, Counter: 258, Order: 3, Vector: api.Vector{X: 5, Y: -5}}
}

// framed is a telegram and its frame, byte by byte.
type framed struct {
	t light.Telegram
	f [24]byte
}

func frames() []framed {
	reach := api.MaxReach
	return []framed{
		{example(), [24]byte{77, 1, 1, 2, 3, 0, 16, 0, 5, 0, 15, 255, 251, 0, 16, 0, 0, 254, 254, 253, 0, 140, 231, 144}},
		{
			light.Telegram{Station: 255, Counter: 65535, Order: 255, Vector: api.Vector{X: reach, Y: -reach, Z: 1}},
			[24]byte{77, 255, 255, 255, 255, 0, 32, 0, 0, 0, 0, 0, 0, 0, 16, 0, 1, 0, 0, 0, 0, 14, 100, 136},
		},
		{
			light.Telegram{Counter: 255, Vector: api.Vector{X: -reach, Y: reach, Z: -1}},
			sealedFrame([24]byte{77, 0, 0, 255, 0, 0, 0, 0, 0, 0, 32, 0, 0, 0, 15, 255, 255, 255, 255, 0}),
		},
		{
			light.Telegram{Station: 77, Counter: 256, Order: 77, Vector: api.Vector{Z: reach}},
			sealedFrame([24]byte{77, 77, 1, 0, 77, 0, 16, 0, 0, 0, 16, 0, 0, 0, 32, 0, 0, 178, 254, 255}),
		},
		{light.Telegram{}, sealedFrame([24]byte{77, 0, 0, 0, 0, 0, 16, 0, 0, 0, 16, 0, 0, 0, 16, 0, 0, 255, 255, 255})},
	}
}

func TestChecksumOfTheExample(t *testing.T) {
	if x := checksum([]byte{1, 2}); x != 77008 {
		t.Errorf("the checksum of 1, 2: %d", x)
	}
}

func TestEncodeAndDecode(t *testing.T) {
	for _, x := range frames() {
		f, e := light.Encode(x.t)
		if f != x.f || e != api.OK {
			t.Errorf("Encode %v: %v, %d, want %v", x.t, f, e, x.f)
		}
		back, e := light.Decode(x.f)
		if back != x.t || e != api.OK {
			t.Errorf("Decode %v: %v, %d, want %v", x.f, back, e, x.t)
		}
	}
	r := rand.New(rand.NewSource(5))
	part := func() int { return r.Intn(2*api.MaxReach+1) - api.MaxReach }
	for range 200 {
		x := light.Telegram{Station: r.Intn(256), Counter: r.Intn(65536), Order: r.Intn(256), Vector: api.Vector{X: part(), Y: part(), Z: part()}}
		back, e := light.Decode(frame(t, x))
		if back != x || e != api.OK {
			t.Fatalf("Decode of the frame of %v: %v, %d", x, back, e)
		}
	}
}

func wrongTelegrams() []light.Telegram {
	l := []light.Telegram{{Station: 256}, {Counter: 65536}, {Order: 256}, {Station: -1}, {Counter: -1}, {Order: -1}}
	for _, n := range []int{1048577, -1048577, math.MaxInt, math.MinInt} {
		l = append(l, light.Telegram{Station: n}, light.Telegram{Counter: n}, light.Telegram{Order: n}, light.Telegram{Vector: api.Vector{X: n}},
			light.Telegram{Vector: api.Vector{Y: n}}, light.Telegram{Vector: api.Vector{Z: n}})
	}
	return l
}

func TestEncodeWithErrors(t *testing.T) {
	for _, x := range wrongTelegrams() {
		f, e := light.Encode(x)
		if e != api.ErrRange || f != [24]byte{} {
			t.Errorf("Encode %v: %v, %d", x, f, e)
		}
	}
}

func wantNoTelegram(t *testing.T, what string, f [24]byte, wanted api.Errno) {
	t.Helper()
	x, e := light.Decode(f)
	if e != wanted || x != (light.Telegram{}) {
		t.Errorf("Decode %s: %v, %d, want %d", what, x, e, wanted)
	}
}

func TestDecodeOfChangedFrames(t *testing.T) {
	for _, x := range frames() {
		for at := range 24 {
			for _, d := range []byte{1, 16, 128, 255} {
				f := x.f
				f[at] += d
				wanted := api.ErrCheck
				if at == 0 {
					wanted = api.ErrForm
				}
				wantNoTelegram(t, "of a changed byte", f, wanted)
				if at >= 17 && at < 20 {
					wantNoTelegram(t, "of a changed repeated byte", sealedFrame(f), api.ErrCheck)
				}
				if at >= 1 && at < 4 {
					wantNoTelegram(t, "of a changed byte that is repeated", sealedFrame(f), api.ErrCheck)
				}
				if at == 0 {
					wantNoTelegram(t, "of a changed mark", sealedFrame(f), api.ErrForm)
				}
			}
		}
	}
	wantNoTelegram(t, "of zeros", [24]byte{}, api.ErrForm)
	wantNoTelegram(t, "of a mark", [24]byte{77}, api.ErrCheck)
}

func TestDecodeOfOtherVectors(t *testing.T) {
	for _, at := range []int{5, 9, 13} {
		for _, bytes := range [][4]byte{{0, 32, 0, 1}, {0, 33, 0, 0}, {0, 255, 255, 255}, {1, 0, 0, 0}, {127, 255, 255, 255}, {128, 0, 0, 0}, {255, 255, 255, 255}, {1, 16, 0, 5}} {
			f := frames()[0].f
			copy(f[at:], bytes[:])
			wantNoTelegram(t, "of a part too large, with a wrong checksum", f, api.ErrCheck)
			wantNoTelegram(t, "of a part too large", sealedFrame(f), api.ErrRange)
			f[18]++
			wantNoTelegram(t, "of a part too large, and a wrong byte", sealedFrame(f), api.ErrCheck)
			f[0]++
			wantNoTelegram(t, "of a part too large, and another mark", sealedFrame(f), api.ErrForm)
		}
	}
}

// wantReceived checks what is received of a stream.
func wantReceived(t *testing.T, what string, s []byte, telegrams []light.Telegram, skipped []api.Span) {
	t.Helper()
	before := slices.Clone(s)
	l, spans, e := light.Received(s)
	expect.Err(t, what, e, api.OK)
	if !slices.Equal(l, telegrams) {
		t.Errorf("Received %s: %v, want %v", what, l, telegrams)
	}
	if !slices.Equal(spans, skipped) {
		t.Errorf("Received %s: skipped %v, want %v", what, spans, skipped)
	}
	if !slices.Equal(s, before) {
		t.Errorf("Received %s changes its argument", what)
	}
}

func TestReceived(t *testing.T) {
	x, y := frames()[0], frames()[1]
	tooFar := x.f
	copy(tooFar[5:], []byte{0, 32, 0, 1})
	tooFar = sealedFrame(tooFar)
	broken := y.f
	broken[10]++
	for _, c := range []struct {
		what      string
		s         []byte
		telegrams []light.Telegram
		skipped   []api.Span
	}{
		{"of nothing", nil, nil, nil},
		{"of a byte", []byte{77}, nil, []api.Span{span(0, 1)}},
		{"of a frame", x.f[:], []light.Telegram{x.t}, nil},
		{"of a torn frame", x.f[:23], nil, []api.Span{span(0, 23)}},
		{"of a frame without its mark", x.f[1:], nil, []api.Span{span(0, 23)}},
		{"of two frames", slices.Concat(x.f[:], y.f[:]), []light.Telegram{x.t, y.t}, nil},
		{"of a frame twice", slices.Concat(x.f[:], x.f[:]), []light.Telegram{x.t, x.t}, nil},
		{"behind 7, 77", slices.Concat([]byte{7, 77}, x.f[:]), []light.Telegram{x.t}, []api.Span{span(0, 2)}},
		{"behind 77, 77", slices.Concat([]byte{77, 77}, x.f[:]), []light.Telegram{x.t}, []api.Span{span(0, 2)}},
		{"before a torn frame", slices.Concat(x.f[:], y.f[:5]), []light.Telegram{x.t}, []api.Span{span(24, 29)}},
		{"before a byte", slices.Concat(x.f[:], []byte{0}), []light.Telegram{x.t}, []api.Span{span(24, 25)}},
		{"around a byte", slices.Concat(x.f[:], []byte{0}, y.f[:]), []light.Telegram{x.t, y.t}, []api.Span{span(24, 25)}},
		{"around a broken frame", slices.Concat(x.f[:], broken[:], y.f[:]), []light.Telegram{x.t, y.t}, []api.Span{span(24, 48)}},
		{"around a frame of a vector too far", slices.Concat(x.f[:], tooFar[:], y.f[:]), []light.Telegram{x.t, y.t}, []api.Span{span(24, 48)}},
		{"within a broken frame", slices.Concat(y.f[:9], x.f[:], y.f[9:]), []light.Telegram{x.t}, []api.Span{span(0, 9), span(33, 48)}},
		{"of many spans", slices.Concat([]byte{1}, x.f[:], []byte{1, 2}, x.f[:], y.f[:], []byte{3}), []light.Telegram{x.t, x.t, y.t}, []api.Span{span(0, 1), span(25, 27), span(75, 76)}},
	} {
		wantReceived(t, c.what, c.s, c.telegrams, c.skipped)
	}
}

// TestReceivedGoesOnBehindAFrame lets a frame begin with the last byte of another one: only the first one is received.
func TestReceivedGoesOnBehindAFrame(t *testing.T) {
	x := light.Telegram{Station: 9}
	for frame(t, x)[23] != light.Mark {
		x.Counter++
	}
	a, b := frame(t, x), frames()[0].f
	wantReceived(t, "of frames that overlap", slices.Concat(a[:], b[1:]), []light.Telegram{x}, []api.Span{span(24, 47)})
	a[1]++
	wantReceived(t, "of a broken frame that overlaps", slices.Concat(a[:], b[1:]), []light.Telegram{frames()[0].t}, []api.Span{span(0, 23)})
}

func TestReceivedUpToTheLimit(t *testing.T) {
	var s []byte
	var l []light.Telegram
	for n := range 512 {
		x := light.Telegram{Station: n % 256, Counter: 127 * n, Order: 255 - n/2, Vector: api.Vector{X: n, Y: -n, Z: n * n}}
		f := frame(t, x)
		s = append(s, f[:]...)
		l = append(l, x)
	}
	wantReceived(t, "of 512 frames", s, l, nil)
	wantReceived(t, "of marks", slices.Repeat([]byte{77}, 12288), nil, []api.Span{span(0, 12288)})
	for _, long := range [][]byte{append(s, 0), make([]byte, 12289), make([]byte, 400001)} {
		telegrams, skipped, e := light.Received(long)
		expect.Err(t, "Received of too much", e, api.ErrLong)
		if len(telegrams) != 0 || len(skipped) != 0 {
			t.Errorf("Received: %v %v beside an error", telegrams, skipped)
		}
	}
}

// counted returns a telegram of the station 4 for each counter, and one of another station behind it.
func counted(l ...int) []light.Telegram {
	var out []light.Telegram
	for i, n := range l {
		out = append(out, light.Telegram{Station: 4, Counter: n, Order: i}, light.Telegram{Station: 5, Counter: 9 * i})
	}
	return out
}

func wantLost(t *testing.T, l []light.Telegram, station int, lost []int) {
	t.Helper()
	got, e := light.Lost(l, station)
	expect.Err(t, "Lost", e, api.OK)
	if !slices.Equal(got, lost) {
		t.Errorf("Lost: %v, want %v", got, lost)
	}
}

func TestLost(t *testing.T) {
	wantLost(t, nil, 4, nil)
	wantLost(t, counted(3), 4, nil)
	wantLost(t, counted(3, 4, 5), 4, nil)
	wantLost(t, counted(3, 4, 7), 4, []int{5, 6})
	wantLost(t, counted(3, 4, 7), 6, nil)
	wantLost(t, counted(3, 4, 7), 0, nil)
	wantLost(t, counted(3, 4, 7), 255, nil)
	wantLost(t, counted(3, 4), 5, []int{1, 2, 3, 4, 5, 6, 7, 8})
	wantLost(t, counted(65535, 1), 4, []int{0})
	wantLost(t, counted(65535, 0), 4, nil)
	wantLost(t, counted(65533, 2), 4, []int{65534, 65535, 0, 1})
	wantLost(t, counted(65534, 0), 4, []int{65535})
	wantLost(t, counted(1, 3, 6, 7, 9), 4, []int{2, 4, 5, 8})
}

// TestLostOfTheMost checks both sides of the limit of 256, of one gap and of several.
func TestLostOfTheMost(t *testing.T) {
	ascending := func(from, n int) []int {
		var l []int
		for i := range n {
			l = append(l, (from+i)%65536)
		}
		return l
	}
	wantLost(t, counted(0, 257), 4, ascending(1, 256))
	wantLost(t, counted(65400, 121), 4, ascending(65401, 256))
	wantLost(t, counted(0, 129, 258), 4, slices.Concat(ascending(1, 128), ascending(130, 128)))
	for _, l := range [][]light.Telegram{
		counted(0, 258), counted(65400, 122), counted(0, 129, 259), counted(0, 257, 259), counted(7, 7), counted(0, 0), counted(65535, 65535),
		counted(7, 6), counted(0, 65535), counted(5, 6, 6), append(counted(7), counted(7)...),
	} {
		lost, e := light.Lost(l, 4)
		expect.Err(t, "Lost of too many", e, api.ErrMany)
		if len(lost) != 0 {
			t.Errorf("Lost: %v beside an error", lost)
		}
	}
}

func TestLostWithErrors(t *testing.T) {
	for _, x := range wrongTelegrams() {
		for _, l := range [][]light.Telegram{{x}, {{}, x}, append(counted(7, 7), x)} {
			lost, e := light.Lost(l, 4)
			expect.Err(t, "Lost of a wrong telegram", e, api.ErrRange)
			if len(lost) != 0 {
				t.Errorf("Lost: %v beside an error", lost)
			}
		}
	}
	for _, station := range []int{-1, 256, math.MaxInt, math.MinInt} {
		for _, l := range [][]light.Telegram{nil, counted(3), counted(7, 7), {{Station: station}}} {
			_, e := light.Lost(l, station)
			expect.Err(t, "Lost of a wrong station", e, api.ErrRange)
		}
	}
	many := make([]light.Telegram, 513)
	_, e := light.Lost(many, 4)
	expect.Err(t, "Lost of 513 telegrams", e, api.ErrMany)
	_, e = light.Lost(many, 256)
	expect.Err(t, "Lost of 513 telegrams and a wrong station", e, api.ErrMany)
	many[0].Order = -1
	_, e = light.Lost(many, 4)
	expect.Err(t, "Lost of 513 telegrams, one of them wrong", e, api.ErrMany)
	wantLost(t, make([]light.Telegram, 512), 4, nil)
}
