package plant

import (
	"spillage/api"
	"spillage/common"
)

// Rate returns the rate of the light.
func Rate(l []api.Event) (int, api.Errno) {
	r, _, bad := Replay(l)
	return r.rate(), bad
}

// Aimed returns the names of the mirrors that are aimed.
func Aimed(l []api.Event) ([]string, api.Errno) {
	r, _, bad := Replay(l)
	return r.aimedNames(), bad
}

// count returns the numbers of the mirrors of a sector, and of those that are aimed.
func (r Register) count(sector string) [2]int {
	var count [2]int
	for m := range those(r.Mirrors, func(m Mirror) bool { return m.isIn(sector) }) {
		count[0]++
		if m.isAimed() {
			count[1]++
		}
	}
	return count
}

// registerWith returns the register after some events, or the error of Replay, then
// ErrUnknown if it does not have what a name stands for.
func registerWith(l []api.Event, n noun, name string) (Register, api.Errno) {
	r, _, bad := Replay(l)
	if bad = common.First(bad, nouns{n}.check(r, []string{name})); bad != api.OK {
		return Register{}, bad
	}
	return r, api.OK
}

// Sector returns the numbers of the mirrors of a sector, and of those that are aimed.
func Sector(l []api.Event, sector string) ([2]int, api.Errno) {
	r, bad := registerWith(l, sectorNoun(), sector)
	return r.count(sector), bad
}

// Booked returns the light and the heat at a tick.
func Booked(l []api.Event, tick int) ([2]int, api.Errno) {
	r, _, bad := Replay(l)
	bad = common.First(bad, common.CheckRange(tick, 0, api.MaxNumber), r.checkTick(tick))
	if bad != api.OK {
		return [2]int{}, bad
	}
	return r.booked(tick), api.OK
}

// Shortfall returns the shortfall of an offer.
func Shortfall(l []api.Event, offer string) (int, api.Errno) {
	r, bad := registerWith(l, offerNoun(), offer)
	return r.offer(offer).shortfall(), bad
}

// Bill returns the bill of an offer.
func Bill(l []api.Event, offer string) (int, api.Errno) {
	r, bad := registerWith(l, offerNoun(), offer)
	return r.offer(offer).bill(), bad
}
