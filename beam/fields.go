package beam

import (
	"slices"

	"spillage/api"
	"spillage/common"
)

// longest is more steps than any deadline has: those of the lease, of a way, and
// of the way home from its turn.
const longest = MaxLease + (MaxWay+MaxStations)*MaxSteps

func nameOf(m Mirror) string {
	return m.Name
}

// stands reports whether the mirror goes nowhere.
func (m Mirror) stands() bool {
	return len(m.Way) == 0
}

// turn is the station to which the mirror goes next, or at which it stands.
func (m Mirror) turn() int {
	if m.stands() {
		return m.At
	}
	return m.Way[0]
}

// end is the station for which the mirror is bound.
func (m Mirror) end() int {
	if m.stands() {
		return m.At
	}
	return m.Way[len(m.Way)-1]
}

// ahead returns the steps of the move of a mirror, or 0 if it stands.
func (n network) ahead(m Mirror) int {
	return n.between(m.At, m.turn())
}

// checkMirrorWay returns the first error of the way of a mirror.
func (n network) checkMirrorWay(m Mirror) api.Errno {
	if len(m.Way) > MaxWay {
		return api.ErrMany
	}
	at := m.At
	for _, next := range m.Way {
		if e := common.First(n.checkIndex(next), n.checkMove(at, next)); e != api.OK {
			return e
		}
		at = next
	}
	return api.OK
}

// checkMirror returns the first error of a mirror at a tick, beside its name.
func (n network) checkMirror(m Mirror, tick int) api.Errno {
	ahead := n.ahead(m)
	return common.First(
		checkName(m.Sector),
		n.checkStation(m.At),
		n.checkMirrorWay(m),
		common.CheckRange(m.Left, min(ahead, 1), ahead),
		common.CheckRange(m.Heard, 0, tick),
		common.When(n.homeOf(m.turn()) == none, api.ErrNone),
	)
}

func (n network) checkField(f Field) api.Errno {
	return common.First(
		common.CheckRange(f.Tick, 0, api.MaxTick),
		common.CheckRange(f.Lease, 1, MaxLease),
		common.CheckDistinct(f.Mirrors, MaxMirrors,
			func(m Mirror) api.Errno { return checkName(m.Name) },
			nameOf,
			func(m Mirror) api.Errno { return n.checkMirror(m, f.Tick) },
		),
	)
}

// networkOfField returns the network of a grid, or the first error of the grid and
// of a field.
func networkOfField(g Grid, f Field) (network, api.Errno) {
	n, e := networkOf(g)
	if e != api.OK {
		return network{}, e
	}
	return n, n.checkField(f)
}

// CheckField returns the first error of a grid and a field, or OK.
func CheckField(g Grid, f Field) api.Errno {
	_, e := networkOfField(g, f)
	return e
}

// flight is a mirror on its way through a network.
type flight struct {
	Mirror
	through network
}

// arrived returns the mirror at its turn.
func (x flight) arrived() flight {
	x.At, x.Way = x.Way[0], x.Way[1:]
	x.Left = x.through.ahead(x.Mirror)
	return x
}

// led returns the mirror led to a station to which there is a way.
func (x flight) led(to int) flight {
	stood := x.stands()
	x.Way = x.through.way(x.turn(), to)
	if stood {
		return x.arrived()
	}
	return x
}

func (x flight) sentHome() flight {
	return x.led(x.through.homeOf(x.turn()))
}

func (x flight) moved() flight {
	x.Left--
	if x.Left > 0 {
		return x
	}
	return x.arrived()
}

func copied(f Field) Field {
	f.Mirrors = common.Mapped(f.Mirrors, func(m Mirror) Mirror {
		m.Way = slices.Clone(m.Way)
		return m
	})
	return f
}

// changed returns a copy of a field in which those mirrors that are asked for have
// changed.
func (n network) changed(f Field, which func(Mirror) bool, change func(flight) flight) Field {
	f = copied(f)
	for i, m := range f.Mirrors {
		if which(m) {
			f.Mirrors[i] = change(flight{Mirror: m, through: n}).Mirror
		}
	}
	return f
}

// indexOf returns the index of the mirror with a name, or -1.
func (f Field) indexOf(name string) int {
	return slices.IndexFunc(f.Mirrors, func(m Mirror) bool { return m.Name == name })
}

// checkOrder returns the first error of an order in a right field.
func (n network) checkOrder(f Field, o Order) api.Errno {
	mirror := f.indexOf(o.Mirror)
	station, found := n.byName[o.Station]
	e := common.First(
		common.When(mirror < 0, api.ErrUnknown),
		common.When(!found, api.ErrUnknown),
		n.checkSafe(station),
	)
	if e != api.OK {
		return e
	}
	return common.When(n.way(f.Mirrors[mirror].turn(), station) == nil, api.ErrNone)
}

// heard returns a field after an order without an error.
func (n network) heard(f Field, o Order) Field {
	hears := func(m Mirror) bool { return m.Name == o.Mirror && !o.Lost }
	return n.changed(f, hears, func(x flight) flight {
		x.Heard = f.Tick
		return x.led(n.byName[o.Station])
	})
}

// Heard returns the field after an order.
func Heard(g Grid, f Field, o Order) (Field, api.Errno) {
	n, e := networkOfField(g, f)
	if e != api.OK {
		return Field{}, e
	}
	if e := n.checkOrder(f, o); e != api.OK {
		return Field{}, e
	}
	return n.heard(f, o), api.OK
}

// stepped returns a field after a step. That mirrors are sent home before any one
// moves changes nothing, since none of them depends on another one.
func (n network) stepped(f Field) Field {
	f.Tick++
	isOverdue := func(m Mirror) bool {
		return f.Tick-m.Heard > f.Lease && n.Stations[m.end()].Kind == focus
	}
	moves := func(m Mirror) bool { return !m.stands() }
	return n.changed(n.changed(f, isOverdue, flight.sentHome), moves, flight.moved)
}

// Stepped returns the field after a step.
func Stepped(g Grid, f Field) (Field, api.Errno) {
	n, e := networkOfField(g, f)
	if e = common.First(e, common.When(f.Tick == api.MaxTick, api.ErrRange)); e != api.OK {
		return Field{}, e
	}
	return n.stepped(f), api.OK
}

// Run returns the field after rounds.
func Run(g Grid, f Field, rounds [][]Order) (Field, api.Errno) {
	n, e := networkOfField(g, f)
	e = common.First(
		e,
		common.When(len(rounds) > MaxRounds, api.ErrMany),
		common.When(len(rounds) > api.MaxTick-f.Tick, api.ErrRange),
	)
	if e != api.OK {
		return Field{}, e
	}
	f = copied(f)
	for _, orders := range rounds {
		f = n.stepped(n.afterOrders(f, orders))
	}
	return f, api.OK
}

// afterOrders returns a field after some orders, of which those with an error are
// heard by nobody. One that is repeated at once changes nothing, and needs no
// search for a way.
func (n network) afterOrders(f Field, orders []Order) Field {
	var last Order
	for _, o := range orders {
		if o != last && n.checkOrder(f, o) == api.OK {
			f = n.heard(f, o)
		}
		last = o
	}
	return f
}

// Deadline returns after how many steps a field is dark.
func Deadline(g Grid, f Field) (int, api.Errno) {
	n, e := networkOfField(g, f)
	if e != api.OK {
		return 0, e
	}
	deadline := 0
	for steps := range longest {
		if n.isAllDark(f) {
			break
		}
		f, deadline = n.stepped(f), steps+1
	}
	return deadline, api.OK
}

// isLit reports whether a mirror stands on the receiver.
func (n network) isLit(m Mirror) bool {
	return m.stands() && n.Stations[m.At].Kind == focus
}

// isDark reports whether a mirror stands elsewhere.
func (n network) isDark(m Mirror) bool {
	return m.stands() && n.Stations[m.At].Kind != focus
}

func (n network) isAllDark(f Field) bool {
	return len(f.names(n.isDark)) == len(f.Mirrors)
}

// names returns the names of those mirrors that are asked for.
func (f Field) names(which func(Mirror) bool) []string {
	var names []string
	for _, m := range f.Mirrors {
		if which(m) {
			names = append(names, m.Name)
		}
	}
	return names
}

// Lit returns the names of the mirrors on the receiver.
func Lit(g Grid, f Field) ([]string, api.Errno) {
	n, e := networkOfField(g, f)
	if e != api.OK {
		return nil, e
	}
	return f.names(n.isLit), api.OK
}

// Dark reports whether a field is dark.
func Dark(g Grid, f Field) (bool, api.Errno) {
	n, e := networkOfField(g, f)
	if e != api.OK {
		return false, e
	}
	return n.isAllDark(f), api.OK
}
