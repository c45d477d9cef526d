package light

import (
	"bytes"
	"math"

	"spillage/api"
	"spillage/common"
)

// The parts of the stream of a map: its begin with width and height, and the
// checksum at its end.
const (
	streamMark = "LMAP"
	headSize   = len(streamMark) + 2
	sampleSize = 4
	checkSize  = 4
)

// Pack returns the stream of a map.
func Pack(m Map) ([]byte, api.Errno) {
	if e := CheckMap(m); e != api.OK {
		return nil, e
	}
	s := make([]byte, 0, streamSize(m.Width, m.Height))
	s = append(s, streamMark...)
	s = append(s, byte(m.Width), byte(m.Height))
	for _, n := range gridOf(m).cells { // the integer of -0 is 0
		s = appendNumber(s, int(math.Float32bits(common.SampleOf(n))))
	}
	return appendNumber(s, checksum(s)), api.OK
}

func streamSize(width, height int) int {
	return headSize + sampleSize*width*height + checkSize
}

func appendNumber(s []byte, n int) []byte {
	var word [4]byte
	writeNumber(word[:], n)
	return append(s, word[:]...)
}

// Unpack returns the map with a stream.
func Unpack(s []byte) (Map, api.Errno) {
	if e := checkStream(s); e != api.OK {
		return Map{}, e
	}
	m := Map{Width: int(s[4]), Height: int(s[5])}
	for at := headSize; at < len(s)-checkSize; at += sampleSize {
		bits := readNumber(s[at : at+sampleSize])
		m.Samples = append(m.Samples, math.Float32frombits(uint32(bits)))
	}
	if e := common.First(CheckMap(m), common.First(common.Mapped(m.Samples, checkZero)...)); e != api.OK {
		return Map{}, e
	}
	return m, api.OK
}

// checkStream returns the first error of the bytes of a stream, whatever its
// samples are.
func checkStream(s []byte) api.Errno {
	if len(s) > api.MaxStream {
		return api.ErrLong
	}
	if len(s) < len(streamMark) {
		return api.ErrTorn
	}
	if !bytes.HasPrefix(s, []byte(streamMark)) {
		return api.ErrForm
	}
	if len(s) < headSize || len(s) < streamSize(int(s[4]), int(s[5])) {
		return api.ErrTorn
	}
	if len(s) > streamSize(int(s[4]), int(s[5])) {
		return api.ErrShape
	}
	body := len(s) - checkSize
	if readNumber(s[body:]) != checksum(s[:body]) {
		return api.ErrCheck
	}
	return api.OK
}

// checkZero returns ErrForm for -0, which would be a second stream of one map.
func checkZero(x float32) api.Errno {
	if x == 0 && math.Signbit(float64(x)) {
		return api.ErrForm
	}
	return api.OK
}
