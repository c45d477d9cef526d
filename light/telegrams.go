package light

import (
	"spillage/api"
	"spillage/common"
)

// Places in a frame, and the greatest numbers that fit in its bytes.
const (
	stationAt  = 1
	counterAt  = 2
	orderAt    = 4
	vectorAt   = 5
	repeatedAt = 17
	checkAt    = 20
	maxByte    = 255
	maxCounter = 65535
)

// limited returns the telegram with each number brought into its range.
func limited(t Telegram) Telegram {
	reach := func(n int) int { return min(max(n, -api.MaxReach), api.MaxReach) }
	return Telegram{
		Station: min(max(t.Station, 0), maxByte),
		Counter: min(max(t.Counter, 0), maxCounter),
		Order:   min(max(t.Order, 0), maxByte),
		Vector:  api.Vector{X: reach(t.Vector.X), Y: reach(t.Vector.Y), Z: reach(t.Vector.Z)},
	}
}

// checkTelegram returns the error of a telegram, or OK: whichever number is the
// first one out of its range, the error is the same.
func checkTelegram(t Telegram) api.Errno {
	if limited(t) != t {
		return api.ErrRange
	}
	return api.OK
}

// Encode returns the frame of a telegram.
func Encode(t Telegram) ([Size]byte, api.Errno) {
	if e := checkTelegram(t); e != api.OK {
		return [Size]byte{}, e
	}
	return frameOf(t), api.OK
}

func frameOf(t Telegram) [Size]byte {
	var f [Size]byte
	f[0] = Mark
	f[stationAt] = byte(t.Station)
	writeNumber(f[counterAt:orderAt], t.Counter)
	f[orderAt] = byte(t.Order)
	for i, part := range [3]int{t.Vector.X, t.Vector.Y, t.Vector.Z} {
		at := vectorAt + 4*i
		writeNumber(f[at:at+4], part+api.MaxReach)
	}
	for i := range 3 {
		f[repeatedAt+i] = maxByte - f[stationAt+i]
	}
	writeNumber(f[checkAt:], checksum(f[:checkAt]))
	return f
}

// telegramOf returns the telegram that a frame would have if it were right.
func telegramOf(f [Size]byte) Telegram {
	part := func(i int) int {
		at := vectorAt + 4*i
		return readNumber(f[at:at+4]) - api.MaxReach
	}
	return Telegram{
		Station: int(f[stationAt]),
		Counter: readNumber(f[counterAt:orderAt]),
		Order:   int(f[orderAt]),
		Vector:  api.Vector{X: part(0), Y: part(1), Z: part(2)},
	}
}

// writeNumber fills bytes with a number, the highest byte first.
func writeNumber(s []byte, n int) {
	for i := len(s) - 1; i >= 0; i-- {
		s[i] = byte(n)
		n >>= 8
	}
}

// readNumber returns the number of some bytes, the highest byte first.
func readNumber(s []byte) int {
	n := 0
	for _, b := range s {
		n = n<<8 | int(b)
	}
	return n
}

func checksum(s []byte) int {
	x := int64(1)
	for _, b := range s {
		x = (277*x + int64(b)) % 16777199
	}
	return int(x)
}

// Decode returns the telegram of a frame.
func Decode(s [Size]byte) (Telegram, api.Errno) {
	if s[0] != Mark {
		return Telegram{}, api.ErrForm
	}
	t := telegramOf(s)
	// Only the checksum and the repeated bytes do not go into the telegram, so
	// that a frame differs from that of its telegram exactly if one is wrong.
	if frameOf(t) != s {
		return Telegram{}, api.ErrCheck
	}
	if e := checkTelegram(t); e != api.OK {
		return Telegram{}, e
	}
	return t, api.OK
}

// Received returns the telegrams of a stream, and the spans of all bytes that are skipped.
func Received(s []byte) ([]Telegram, []api.Span, api.Errno) {
	if len(s) > MaxTelegrams*Size {
		return nil, nil, api.ErrLong
	}
	var telegrams []Telegram
	var skipped []api.Span
	for at := 0; at < len(s); {
		t, ok := telegramAt(s, at)
		if ok {
			telegrams = append(telegrams, t)
			at += Size
			continue
		}
		skipped = common.Extended(skipped, at)
		at++
	}
	return telegrams, skipped, api.OK
}

func telegramAt(s []byte, at int) (Telegram, bool) {
	if len(s)-at < Size {
		return Telegram{}, false
	}
	var frame [Size]byte
	copy(frame[:], s[at:])
	t, e := Decode(frame)
	return t, e == api.OK
}

// Lost returns the counters of a station that are lost.
func Lost(l []Telegram, station int) ([]int, api.Errno) {
	if e := common.First(common.CheckList(l, MaxTelegrams, checkTelegram), common.CheckRange(station, 0, maxByte)); e != api.OK {
		return nil, e
	}
	lost := missing(countersOf(l, station), api.MaxList+1)
	if len(lost) > api.MaxList {
		return nil, api.ErrMany
	}
	return lost, api.OK
}

func countersOf(l []Telegram, station int) []int {
	var counters []int
	for _, t := range l {
		if t.Station == station {
			counters = append(counters, t.Counter)
		}
	}
	return counters
}

// missing returns the counters between each one and the next, at most as many
// as a limit.
func missing(counters []int, limit int) []int {
	var lost []int
search:
	for i := range len(counters) - 1 {
		from, to := counters[i], counters[i+1]
		for n := following(from); n != to; n = following(n) {
			if len(lost) == limit {
				break search
			}
			lost = append(lost, n)
		}
	}
	return lost
}

func following(counter int) int {
	return (counter + 1) % (maxCounter + 1)
}
