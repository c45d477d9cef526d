package plant

import (
	"iter"

	"spillage/api"
	"spillage/common"
)

// whole is all of the light of a mirror, in thousandths.
const whole = 1000

// fieldKinds returns the kinds of events of sectors and mirrors.
func fieldKinds() kinds {
	sector, mirror := sectorNoun(), mirrorNoun()
	return kinds{
		"sector": {names: nouns{newOne(sector)}, values: 1, check: Register.checkNewSector, change: Register.withSector},
		"mirror": {names: nouns{newOne(mirror), sector}, values: 2, check: Register.checkNewMirror, change: Register.withMirror},
		"soil":   ofMirror(2, checkSoil, func(m *Mirror, e api.Event) { m.Soil = e.Values[1] }),
		"clean":  ofMirror(1, refusesNothing, func(m *Mirror, _ api.Event) { m.Soil = 0 }),
		"defect": ofMirror(1, Register.checkDefect, func(m *Mirror, _ api.Event) { m.Defect = true }),
		"repair": ofMirror(1, Register.checkRepair, func(m *Mirror, _ api.Event) { m.Defect = false }),
		"aim":    ofMirror(1, Register.checkAim, func(m *Mirror, _ api.Event) { m.Aimed = true }),
		"park":   ofMirror(1, Register.checkPark, func(m *Mirror, _ api.Event) { m.Aimed = false }),
		"dim":    {names: nouns{sector}, values: 1, check: refusesNothing, change: Register.dimmed},
	}
}

// ofMirror returns a kind of events that change one mirror.
func ofMirror(values int, check func(r Register, e api.Event) api.Errno, change func(m *Mirror, e api.Event)) kind {
	return kind{
		names:  nouns{mirrorNoun()},
		values: values,
		check:  check,
		change: func(r Register, e api.Event) Register {
			isIt := func(m Mirror) bool { return m.isNamed(e.Names[0]) }
			r.Mirrors = changed(r.Mirrors, isIt, func(m *Mirror) { change(m, e) })
			return r
		},
	}
}

func (m Mirror) isNamed(name string) bool {
	return m.Name == name
}

func (m Mirror) isIn(sector string) bool {
	return m.Sector == sector
}

func (m Mirror) isAimed() bool {
	return m.Aimed
}

// mirror returns the mirror with a name, or one without a name if there is none.
func (r Register) mirror(name string) Mirror {
	var found Mirror
search:
	for _, m := range r.Mirrors {
		if m.isNamed(name) {
			found = m
			break search
		}
	}
	return found
}

// aimed visits the mirrors that are aimed.
func (r Register) aimed() iter.Seq[Mirror] {
	return those(r.Mirrors, Mirror.isAimed)
}

func (r Register) hasAimed() bool {
	for range r.aimed() {
		return true
	}
	return false
}

func (r Register) aimedNames() []string {
	var names []string
	for m := range r.aimed() {
		names = append(names, m.Name)
	}
	return names
}

// parked returns the register with those mirrors that are asked for not aimed.
func (r Register) parked(which func(Mirror) bool) Register {
	r.Mirrors = changed(r.Mirrors, which, func(m *Mirror) { m.Aimed = false })
	return r
}

func (r Register) dimmed(e api.Event) Register {
	return r.parked(func(m Mirror) bool { return m.isIn(e.Names[0]) })
}

func (r Register) checkNewSector(api.Event) api.Errno {
	return common.When(len(r.Sectors) >= MaxSectors, api.ErrMany)
}

func (r Register) withSector(e api.Event) Register {
	r.Sectors = joined(r.Sectors, e.Names[0])
	return r
}

func (r Register) checkNewMirror(e api.Event) api.Errno {
	return common.First(
		common.CheckRange(e.Values[1], 1, MaxArea),
		common.When(len(r.Mirrors) >= MaxMirrors, api.ErrMany),
	)
}

func (r Register) withMirror(e api.Event) Register {
	r.Mirrors = joined(r.Mirrors, Mirror{Name: e.Names[0], Sector: e.Names[1], Area: e.Values[1]})
	return r
}

func checkSoil(_ Register, e api.Event) api.Errno {
	return common.CheckRange(e.Values[1], 0, whole)
}

func (r Register) checkDefect(e api.Event) api.Errno {
	m := r.mirror(e.Names[0])
	return common.First(
		common.When(m.Defect, api.ErrTwice),
		common.When(m.Aimed, api.ErrHeld),
	)
}

func (r Register) checkRepair(e api.Event) api.Errno {
	return common.When(!r.mirror(e.Names[0]).Defect, api.ErrState)
}

func (r Register) checkAim(e api.Event) api.Errno {
	m := r.mirror(e.Names[0])
	return common.First(
		common.When(!r.Filled, api.ErrCold),
		common.When(r.Tripped, api.ErrLocked),
		common.When(m.Defect, api.ErrRule),
		common.When(m.Aimed, api.ErrTwice),
	)
}

func (r Register) checkPark(e api.Event) api.Errno {
	return common.When(!r.mirror(e.Names[0]).Aimed, api.ErrState)
}
