package salt

import (
	"slices"

	"spillage/api"
	"spillage/common"
)

// The states of a receiver.
const (
	empty   = "empty"
	filled  = "filled"
	running = "running"
)

// act is what is done at the beginning of a step: it leads from some states to
// states, if the receiver fits.
type act struct {
	name  string
	leads map[string]string
	fits  func(r Rules, x Receiver) bool
}

func acts() []act {
	always := func(Rules, Receiver) bool { return true }
	return []act{
		{name: "wait", leads: map[string]string{empty: empty, filled: filled, running: running}, fits: always},
		{name: "fill", leads: map[string]string{empty: filled}, fits: Rules.isReady},
		{name: "drain", leads: map[string]string{filled: empty}, fits: always},
		{name: "start", leads: map[string]string{filled: running}, fits: always},
		{name: "stop", leads: map[string]string{running: filled}, fits: always},
	}
}

// actOf returns the act with a name, or false if it is the name of none.
func actOf(name string) (act, bool) {
	l := acts()
	i := slices.IndexFunc(l, func(a act) bool { return a.name == name })
	if i < 0 {
		return act{}, false
	}
	return l[i], true
}

func checkAct(name string) api.Errno {
	_, found := actOf(name)
	return common.When(!found, api.ErrKind)
}

// CheckRules returns the first error of rules, or OK.
func CheckRules(r Rules) api.Errno {
	return common.First(
		common.CheckRange(r.Capacity, 1, MaxCapacity),
		common.CheckRange(r.Loss, 0, MaxLoss),
		common.CheckRange(r.Freeze, 0, MaxHeat),
		common.CheckRange(r.Ready, 0, MaxHeat),
		common.CheckRange(r.Hot, 0, MaxHeat),
		common.CheckRange(r.Cold, 0, MaxHeat),
		common.When(r.Freeze >= r.Ready || r.Ready >= r.Hot, api.ErrOrder),
		common.When(r.Cold < r.Freeze || r.Cold > r.Hot, api.ErrBand),
	)
}

// CheckReceiver returns the first error of a receiver, or OK.
func CheckReceiver(x Receiver) api.Errno {
	isState := slices.Contains([]string{empty, filled, running}, x.State)
	return common.First(
		common.When(!isState, api.ErrKind),
		common.CheckRange(x.Heat, 0, MaxStore),
	)
}

// checkBoth returns the first error of rules and a receiver.
func checkBoth(r Rules, x Receiver) api.Errno {
	return common.First(CheckRules(r), CheckReceiver(x))
}

// checkTold returns the first error of a told step.
func (r Rules) checkTold(t Told) api.Errno {
	return common.First(
		checkAct(t.Act),
		common.CheckInterval(t.Light, 0, MaxLight),
		common.CheckRange(t.Flow, 0, r.Capacity),
	)
}

// checkStep returns the first error of a step.
func (r Rules) checkStep(s Step) api.Errno {
	return r.checkTold(Told{Act: s.Act, Light: api.Interval{Low: s.Light, High: s.Light}, Flow: s.Flow})
}

func (r Rules) temperature(x Receiver) int {
	return x.Heat / r.Capacity
}

// isReady reports whether a receiver is warm enough to be filled.
func (r Rules) isReady(x Receiver) bool {
	return r.temperature(x) >= r.Ready
}

func (r Rules) isFrozen(x Receiver) bool {
	return x.State != empty && r.temperature(x) < r.Freeze
}

// Temperature returns the temperature of a receiver.
func Temperature(r Rules, x Receiver) (int, api.Errno) {
	if e := checkBoth(r, x); e != api.OK {
		return 0, e
	}
	return r.temperature(x), api.OK
}

// account is a receiver with the balance of all steps before.
type account struct {
	Receiver
	Balance
}

// stepped returns the account after a step without an error of its own. Nothing is
// taken without a flow, in whatever state.
func (r Rules) stepped(x account, s Step) (account, api.Errno) {
	a, _ := actOf(s.Act)
	state, permitted := a.leads[x.State]
	taken := s.Flow*x.Heat/r.Capacity - s.Flow*r.Cold
	heat := x.Heat - taken + s.Light
	lost := min(r.Loss, heat)
	after := account{
		Receiver: Receiver{State: state, Heat: heat - lost},
		Balance:  Balance{Taken: x.Taken + taken, Lost: x.Lost + lost},
	}
	e := common.First(
		common.When(!permitted, api.ErrState),
		common.When(!a.fits(r, x.Receiver), api.ErrBand),
		common.When(s.Flow > 0 && state != running, api.ErrRule),
		common.When(after.Heat > MaxStore, api.ErrLarge),
		common.When(r.isFrozen(after.Receiver), api.ErrHeld),
		common.When(r.temperature(after.Receiver) > r.Hot, api.ErrOver),
	)
	if e != api.OK {
		return account{}, e
	}
	return after, api.OK
}

// run returns the accounts of a receiver after plans of as many steps, which are
// done side by side; or the index of the first step that fails in one of them, and
// its error in the first one of these.
func (r Rules) run(x Receiver, plans ...[]Step) ([]account, int, api.Errno) {
	accounts := slices.Repeat([]account{{Receiver: x}}, len(plans))
	index, e := 0, api.OK
search:
	for i := range len(plans[0]) {
		for k, plan := range plans {
			accounts[k], e = r.stepped(accounts[k], plan[i])
			if e != api.OK {
				index = i
				break search
			}
		}
	}
	return accounts, index, e
}

// Stepped returns a receiver after a step, and its balance.
func Stepped(r Rules, x Receiver, s Step) (Receiver, Balance, api.Errno) {
	after, balance, _, e := Run(r, x, []Step{s})
	return after, balance, e
}

// Run returns a receiver after steps, the sum of the balances, and the index of the step that failed.
func Run(r Rules, x Receiver, l []Step) (Receiver, Balance, int, api.Errno) {
	if e := common.First(checkBoth(r, x), common.CheckList(l, MaxPlan, r.checkStep)); e != api.OK {
		return Receiver{}, Balance{}, 0, e
	}
	accounts, index, e := r.run(x, l)
	if e != api.OK {
		return Receiver{}, Balance{}, index, e
	}
	return accounts[0].Receiver, accounts[0].Balance, 0, api.OK
}

// with returns the step with some light.
func (t Told) with(light int) Step {
	return Step{Act: t.Act, Light: light, Flow: t.Flow}
}

// Sure returns the interval of the heat after told steps, and the index of the step that may fail.
func Sure(r Rules, x Receiver, l []Told) (api.Interval, int, api.Errno) {
	if e := common.First(checkBoth(r, x), common.CheckList(l, MaxPlan, r.checkTold)); e != api.OK {
		return api.Interval{}, 0, e
	}
	// More heat or light never leads to less heat, so that the ends decide.
	least := common.Mapped(l, func(t Told) Step { return t.with(t.Light.Low) })
	greatest := common.Mapped(l, func(t Told) Step { return t.with(t.Light.High) })
	accounts, index, e := r.run(x, least, greatest)
	if e != api.OK {
		return api.Interval{}, index, e
	}
	return api.Interval{Low: accounts[0].Heat, High: accounts[1].Heat}, 0, api.OK
}

// Hold returns how many steps a receiver may stand.
func Hold(r Rules, x Receiver) (int, api.Errno) {
	if e := checkBoth(r, x); e != api.OK {
		return 0, e
	}
	e := common.First(
		common.When(x.State == empty, api.ErrState),
		common.When(r.isFrozen(x), api.ErrHeld),
		common.When(r.Loss == 0 || r.Freeze == 0, api.ErrNone),
	)
	if e != api.OK {
		return 0, e
	}
	return (x.Heat - r.Freeze*r.Capacity) / r.Loss, api.OK
}
