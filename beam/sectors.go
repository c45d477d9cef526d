package beam

import (
	"slices"

	"spillage/api"
	"spillage/common"
)

// checkNew returns the first error of a mirror that is to join a field, beside
// those that it would have in the field.
func (n network) checkNew(f Field, m Mirror) api.Errno {
	e := common.First(
		common.When(len(f.Mirrors) >= MaxMirrors, api.ErrMany),
		n.checkIndex(m.At),
	)
	if e != api.OK {
		return e
	}
	return common.When(!n.isDark(m), api.ErrState)
}

// Joined returns a field with a mirror more.
func Joined(g Grid, f Field, m Mirror) (Field, api.Errno) {
	n, e := networkOfField(g, f)
	if e = common.First(e, n.checkNew(f, m)); e != api.OK {
		return Field{}, e
	}
	f.Mirrors = append(slices.Clone(f.Mirrors), m)
	if e := n.checkField(f); e != api.OK {
		return Field{}, e
	}
	return copied(f), api.OK
}

// Taken returns a field without a mirror.
func Taken(g Grid, f Field, name string) (Field, api.Errno) {
	n, e := networkOfField(g, f)
	if e != api.OK {
		return Field{}, e
	}
	mirror := f.indexOf(name)
	if mirror < 0 {
		return Field{}, api.ErrUnknown
	}
	if !n.isDark(f.Mirrors[mirror]) {
		return Field{}, api.ErrState
	}
	f = copied(f)
	f.Mirrors = slices.Delete(f.Mirrors, mirror, mirror+1)
	return f, api.OK
}

func isOf(sector string) func(Mirror) bool {
	return func(m Mirror) bool { return m.Sector == sector }
}

// networkOfSector returns the network of a grid, or the first error of the grid,
// of a field, and of a sector of it.
func networkOfSector(g Grid, f Field, sector string) (network, api.Errno) {
	n, e := networkOfField(g, f)
	return n, common.First(
		e,
		checkName(sector),
		common.When(!slices.ContainsFunc(f.Mirrors, isOf(sector)), api.ErrUnknown),
	)
}

// Sector returns the names of the mirrors of a sector.
func Sector(g Grid, f Field, sector string) ([]string, api.Errno) {
	if _, e := networkOfSector(g, f, sector); e != api.OK {
		return nil, e
	}
	return f.names(isOf(sector)), api.OK
}

// Defocused returns a field whose sector is sent home.
func Defocused(g Grid, f Field, sector string) (Field, api.Errno) {
	n, e := networkOfSector(g, f, sector)
	if e != api.OK {
		return Field{}, e
	}
	return n.changed(f, isOf(sector), func(x flight) flight {
		x.Heard = f.Tick
		return x.sentHome()
	}), api.OK
}
