package plant

import (
	"maps"

	"spillage/api"
	"spillage/common"
)

// undo is the kind that turns a history back, and has no effect of its own.
const undo = "undo"

// kind is what the events of a kind have, the error with which a register refuses
// one at its tick, and the register after it. What is final is never undone.
type kind struct {
	names   nouns
	values  int
	isFinal bool
	check   func(r Register, e api.Event) api.Errno
	change  func(r Register, e api.Event) Register
}

type kinds map[string]kind

func allKinds() kinds {
	all := kinds{undo: {}}
	maps.Copy(all, fieldKinds())
	maps.Copy(all, receiverKinds())
	maps.Copy(all, offerKinds())
	return all
}

func refusesNothing(Register, api.Event) api.Errno {
	return api.OK
}

func checkValue(n int) api.Errno {
	return common.CheckRange(n, 0, api.MaxNumber)
}

func (k kinds) check(e api.Event) api.Errno {
	form, isKnown := k[e.Kind]
	return common.First(
		common.CheckRange(e.Number, 1, api.MaxEvents),
		common.When(!isKnown, api.ErrKind),
		common.When(len(e.Names) != len(form.names), api.ErrShape),
		common.When(len(e.Values) != form.values, api.ErrShape),
		common.CheckList(e.Names, len(form.names), checkName),
		common.CheckList(e.Values, form.values, checkValue),
		common.When(e.Text != "", api.ErrForm),
	)
}

// CheckEvent returns the first error of an event by itself, or OK.
func CheckEvent(e api.Event) api.Errno {
	return allKinds().check(e)
}

// after returns the register after an event that is right by itself, or the error with
// which it is not accepted.
func (k kind) after(r Register, e api.Event) (Register, api.Errno) {
	tick := e.Values[0]
	if bad := common.First(r.checkTick(tick), k.names.check(r, e.Names)); bad != api.OK {
		return Register{}, bad
	}
	r = r.at(tick)
	if bad := k.check(r, e); bad != api.OK {
		return Register{}, bad
	}
	return k.change(r, e), api.OK
}
