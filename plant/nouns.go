package plant

import (
	"slices"

	"spillage/api"
	"spillage/common"
	"spillage/light"
)

// noun is what a name stands for: the things that a register has, or a new one of
// them.
type noun struct {
	isNew bool
	has   func(r Register, name string) bool
	isOf  func(m Mirror, name string) bool
}

func sectorNoun() noun {
	return noun{has: Register.hasSector, isOf: Mirror.isIn}
}

func mirrorNoun() noun {
	return noun{has: Register.hasMirror, isOf: Mirror.isNamed}
}

func offerNoun() noun {
	return noun{has: Register.hasOffer, isOf: func(Mirror, string) bool { return false }}
}

func newOne(n noun) noun {
	n.isNew = true
	return n
}

func (r Register) hasSector(name string) bool {
	return slices.Contains(r.Sectors, name)
}

func (r Register) hasMirror(name string) bool {
	return r.mirror(name) != Mirror{}
}

func (r Register) hasOffer(name string) bool {
	return r.offer(name) != Offer{}
}

// nouns is what each one of some names stands for.
type nouns []noun

// check returns ErrUnknown if a name is that of nothing, then ErrTwice if a new one
// is there already.
func (l nouns) check(r Register, names []string) api.Errno {
	isUnknown, isTwice := false, false
	for i, n := range l {
		isThere := n.has(r, names[i])
		isUnknown = isUnknown || !n.isNew && !isThere
		isTwice = isTwice || n.isNew && isThere
	}
	return common.First(
		common.When(isUnknown, api.ErrUnknown),
		common.When(isTwice, api.ErrTwice),
	)
}

// areOf reports whether all names are about a mirror.
func (l nouns) areOf(m Mirror, names []string) bool {
	for i, n := range l {
		if !n.isOf(m, names[i]) {
			return false
		}
	}
	return true
}

func checkName(name string) api.Errno {
	return common.When(!light.IsName(name), api.ErrName)
}
