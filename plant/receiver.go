package plant

import (
	"spillage/api"
	"spillage/common"
)

// The indices of what is booked.
const (
	lightAt = iota
	heatAt
)

// receiverKinds returns the kinds of events of the sun, and of the receiver with its
// trips.
func receiverKinds() kinds {
	return kinds{
		"sun": {values: 2, check: checkLevel, change: func(r Register, e api.Event) Register {
			r.Level = e.Values[1]
			return r
		}},
		"fill": ofPlant(Register.checkFill, func(r Register) Register {
			r.Filled = true
			return r
		}),
		"drain": ofPlant(Register.checkDrain, func(r Register) Register {
			r.Filled = false
			return r
		}),
		"trip": ofPlant(Register.checkTrip, func(r Register) Register {
			r.Tripped = true
			return r.parked(Mirror.isAimed)
		}),
		"reset": ofPlant(Register.checkReset, func(r Register) Register {
			r.Tripped = false
			return r
		}),
	}
}

// ofPlant returns a kind of events that have a tick alone.
func ofPlant(check func(r Register) api.Errno, change func(r Register) Register) kind {
	return kind{
		values: 1,
		check:  func(r Register, _ api.Event) api.Errno { return check(r) },
		change: func(r Register, _ api.Event) Register { return change(r) },
	}
}

func checkLevel(_ Register, e api.Event) api.Errno {
	return common.CheckRange(e.Values[1], 0, MaxLevel)
}

func (r Register) checkFill() api.Errno {
	return common.When(r.Filled, api.ErrTwice)
}

func (r Register) checkDrain() api.Errno {
	return common.First(
		common.When(!r.Filled, api.ErrState),
		common.When(r.hasAimed(), api.ErrHeld),
	)
}

func (r Register) checkTrip() api.Errno {
	return common.When(r.Tripped, api.ErrTwice)
}

func (r Register) checkReset() api.Errno {
	return common.When(!r.Tripped, api.ErrState)
}

func (r Register) rate() int {
	rate := 0
	for m := range r.aimed() {
		rate += m.Area * (whole - m.Soil) * r.Level
	}
	return rate
}

// booked returns the light and the heat at a tick.
func (r Register) booked(tick int) [2]int {
	more := r.rate() * (tick - r.Tick)
	return [2]int{lightAt: r.Light + more, heatAt: r.Heat + more}
}

// checkTick returns ErrState for a tick before the register's, then ErrLarge for one at
// which there would be too much light or heat.
func (r Register) checkTick(tick int) api.Errno {
	booked := r.booked(tick)
	limited := [2]int{min(booked[lightAt], MaxHeat), min(booked[heatAt], MaxHeat)}
	return common.First(
		common.When(tick < r.Tick, api.ErrState),
		common.When(booked != limited, api.ErrLarge),
	)
}

// at returns the register at a tick, before anything happens there.
func (r Register) at(tick int) Register {
	booked := r.booked(tick)
	r.Tick, r.Light, r.Heat = tick, booked[lightAt], booked[heatAt]
	return r
}
