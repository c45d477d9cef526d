package salt_test

import (
	"math/rand"
	"reflect"
	"slices"
	"testing"

	"spillage/api"
	"spillage/expect"
	"spillage/salt"
)

// The states and the acts of a receiver.
const (
	empty   = "empty"
	filled  = "filled"
	running = "running"

	wait  = "wait"
	fill  = "fill"
	drain = "drain"
	start = "start"
	stop  = "stop"
)

func ints(l ...int) []int { return l }

func to(low, high int) api.Interval { return api.Interval{Low: low, High: high} }

func ratio(num, den int) api.Ratio { return api.Ratio{Num: num, Den: den} }

// r returns the rules R of the chapter's examples.
func r() salt.Rules {
	return salt.Rules{Capacity: 10, Loss: 30, Freeze: 20, Ready: 30, Hot: 60, Cold: 25}
}

// altered returns the rules R after a change.
func altered(change func(r *salt.Rules)) salt.Rules {
	x := r()
	change(&x)
	return x
}

// widest returns the rules with the greatest numbers that are permitted together.
func widest() salt.Rules {
	return salt.Rules{Capacity: 1000, Loss: 100000, Freeze: 998, Ready: 999, Hot: 1000, Cold: 1000}
}

func at(state string, heat int) salt.Receiver { return salt.Receiver{State: state, Heat: heat} }

func step(act string, light, flow int) salt.Step {
	return salt.Step{Act: act, Light: light, Flow: flow}
}

func steps(l ...salt.Step) []salt.Step { return l }

func told(act string, low, high, flow int) salt.Told {
	return salt.Told{Act: act, Light: to(low, high), Flow: flow}
}

func tolds(l ...salt.Told) []salt.Told { return l }

func balance(taken, lost int) salt.Balance { return salt.Balance{Taken: taken, Lost: lost} }

// cycles returns the cycles with pairs of ends.
func cycles(l ...int) []salt.Cycle {
	var out []salt.Cycle
	for pair := range slices.Chunk(l, 2) {
		out = append(out, salt.Cycle{From: pair[0], To: pair[1]})
	}
	return out
}

// classes returns the classes with pairs of a range and its damage.
func classes(l ...int) []salt.Class {
	var out []salt.Class
	for pair := range slices.Chunk(l, 2) {
		out = append(out, salt.Class{Range: pair[0], Damage: pair[1]})
	}
	return out
}

// stairs returns n classes.
func stairs(n int) []salt.Class {
	var l []salt.Class
	for i := range n {
		l = append(l, salt.Class{Range: i + 1, Damage: i})
	}
	return l
}

// tank returns the tank with a room, and layers with pairs of an amount and its heat.
func tank(room int, l ...int) salt.Tank {
	out := salt.Tank{Room: room}
	for pair := range slices.Chunk(l, 2) {
		out.Layers = append(out.Layers, salt.Layer{Amount: pair[0], Heat: pair[1]})
	}
	return out
}

// shown returns the tank T of the chapter's examples.
func shown() salt.Tank { return tank(100, 10, 200, 20, 800) }

// tower returns a tank with n layers of the amount 1, whose heats are 0, 2, 4 and so on.
func tower(n int) salt.Tank {
	t := tank(100)
	for i := range n {
		t.Layers = append(t.Layers, salt.Layer{Amount: 1, Heat: 2 * i})
	}
	return t
}

func sameTank(a, b salt.Tank) bool { return a.Room == b.Room && slices.Equal(a.Layers, b.Layers) }

// wantTank reports a tank or an error that is not the expected one.
func wantTank(t *testing.T, what string, got salt.Tank, e api.Errno, wanted salt.Tank, wantedErr api.Errno) {
	t.Helper()
	if !sameTank(got, wanted) || e != wantedErr {
		t.Errorf("%s: got %v, error %d, want %v, error %d", what, got, e, wanted, wantedErr)
	}
}

// between returns a number from low to high.
func between(r *rand.Rand, low, high int) int { return low + r.Intn(high-low+1) }

// pick returns one of some values.
func pick[T any](r *rand.Rand, l ...T) T { return l[r.Intn(len(l))] }

// randomRules returns rules of which few or many receivers are in the band.
func randomRules(r *rand.Rand) salt.Rules {
	freeze := between(r, 0, 20)
	ready := freeze + between(r, 1, 20)
	hot := ready + between(r, 1, pick(r, 20, 400))
	return salt.Rules{Capacity: between(r, 1, 12), Loss: between(r, 0, pick(r, 3, 40)), Freeze: freeze, Ready: ready, Hot: hot, Cold: between(r, freeze, hot)}
}

// randomReceiver returns a receiver that is mostly neither frozen nor too hot.
func randomReceiver(r *rand.Rand, x salt.Rules) salt.Receiver {
	state := pick(r, empty, filled, running)
	if r.Intn(8) == 0 {
		return at(state, r.Intn(2*x.Capacity*(x.Hot+1)))
	}
	return at(state, between(r, x.Capacity*x.Freeze, x.Capacity*(x.Hot+1)))
}

// randomTold returns a told step that a receiver with rules may survive.
func randomTold(r *rand.Rand, x salt.Rules, state string) salt.Told {
	act := pick(r, map[string][]string{empty: {wait, fill}, filled: {wait, wait, start, drain}, running: {wait, wait, wait, stop}}[state]...)
	if r.Intn(20) == 0 {
		act = pick(r, wait, fill, drain, start, stop)
	}
	low := r.Intn(pick(r, 1, x.Loss+1, 2*x.Loss+x.Capacity+1))
	t := told(act, low, low+r.Intn(x.Capacity+1), 0)
	if next, _ := stateAfter(act, state); next == running || r.Intn(20) == 0 {
		t.Flow = r.Intn(x.Capacity + 1)
	}
	return t
}

// randomPlan returns told steps, one after the other from a receiver on, and the state after them.
func randomPlan(r *rand.Rand, x salt.Rules, state string, n int) []salt.Told {
	var l []salt.Told
	for range n {
		t := randomTold(r, x, state)
		l = append(l, t)
		if next, permitted := stateAfter(t.Act, state); permitted {
			state = next
		}
	}
	return l
}

// lit returns the steps of told ones with light of their intervals.
func lit(l []salt.Told, light func(x api.Interval) int) []salt.Step {
	var out []salt.Step
	for _, t := range l {
		out = append(out, step(t.Act, light(t.Light), t.Flow))
	}
	return out
}

// randomHistory returns integers up to a reach, of which some are the same as the one before them.
func randomHistory(r *rand.Rand, n, reach int) []int {
	var l []int
	for range n {
		if len(l) > 0 && r.Intn(5) == 0 {
			l = append(l, l[len(l)-1])
		} else {
			l = append(l, between(r, -reach, reach))
		}
	}
	return l
}

// randomClasses returns 1 to 16 classes with ranges up to about twice a reach.
func randomClasses(r *rand.Rand, reach int) []salt.Class {
	var l []salt.Class
	span, damage := 0, -1
	for range between(r, 1, 16) {
		span, damage = span+between(r, 1, 1+reach/8), damage+between(r, 1, 50)
		l = append(l, salt.Class{Range: span, Damage: damage})
	}
	return l
}

// randomTank returns a tank of up to n layers, each one colder than the next one.
func randomTank(r *rand.Rand, n, most int) salt.Tank {
	t := tank(0)
	warmth := r.Intn(3)
	for range r.Intn(n + 1) {
		amount := between(r, 1, most)
		t.Layers = append(t.Layers, salt.Layer{Amount: amount, Heat: amount*warmth + r.Intn(amount)})
		t.Room += amount
		warmth += 1 + r.Intn(2)
	}
	t.Room = max(t.Room, 1) + pick(r, 0, 5, 1000)
	return t
}

// arguments are what the functions of the package take.
type arguments struct {
	rules        salt.Rules
	receiver     salt.Receiver
	step         salt.Step
	steps        []salt.Step
	told         []salt.Told
	history      []int
	cycles       []salt.Cycle
	rest         []int
	classes      []salt.Class
	tank         salt.Tank
	index        int
	amount, heat int
	num, den     int
}

func rightArguments() arguments {
	return arguments{
		rules: r(), receiver: at(filled, 370), step: step(start, 200, 5), steps: steps(step(start, 200, 5), step(wait, 0, 0), step(stop, 10, 0)), told: tolds(told(wait, 0, 60, 0), told(start, 30, 60, 2), told(wait, 90, 90, 0)),
		history: ints(0, 5, 5, 3, 4, -1), cycles: cycles(3, 4, 9, 2), rest: ints(0, 5, -1), classes: classes(1, 10, 5, 200), tank: shown(), index: 1, amount: 5, heat: 150, num: 1, den: 100,
	}
}

func calls() []expect.Call[arguments] {
	list := func(l ...string) []string { return l }
	return []expect.Call[arguments]{
		{What: "CheckRules", Takes: list("rules"), Do: func(a arguments) ([]any, api.Errno) { return expect.None(salt.CheckRules(a.rules)) }},
		{What: "CheckReceiver", Takes: list("receiver"), Do: func(a arguments) ([]any, api.Errno) { return expect.None(salt.CheckReceiver(a.receiver)) }},
		{What: "Temperature", Takes: list("rules", "receiver"), Do: func(a arguments) ([]any, api.Errno) { return expect.One(salt.Temperature(a.rules, a.receiver)) }},
		{What: "Stepped", Takes: list("rules", "receiver", "step"), Do: func(a arguments) ([]any, api.Errno) {
			return expect.Two(salt.Stepped(a.rules, a.receiver, a.step))
		}},
		{What: "Run", Takes: list("rules", "receiver", "steps"), Do: func(a arguments) ([]any, api.Errno) { return expect.Three(salt.Run(a.rules, a.receiver, a.steps)) }},
		{What: "Sure", Takes: list("rules", "receiver", "told"), Do: func(a arguments) ([]any, api.Errno) { return expect.Two(salt.Sure(a.rules, a.receiver, a.told)) }},
		{What: "Hold", Takes: list("rules", "receiver"), Do: func(a arguments) ([]any, api.Errno) { return expect.One(salt.Hold(a.rules, a.receiver)) }},
		{What: "Turns", Takes: list("history"), Do: func(a arguments) ([]any, api.Errno) { return expect.One(salt.Turns(a.history)) }},
		{What: "Rainflow", Takes: list("history"), Do: func(a arguments) ([]any, api.Errno) { return expect.Two(salt.Rainflow(a.history)) }},
		{What: "CheckClasses", Takes: list("classes"), Do: func(a arguments) ([]any, api.Errno) { return expect.None(salt.CheckClasses(a.classes)) }},
		{What: "Counted", Takes: list("cycles", "classes"), Do: func(a arguments) ([]any, api.Errno) { return expect.One(salt.Counted(a.cycles, a.classes)) }},
		{What: "Damage", Takes: list("cycles", "rest", "classes"), Do: func(a arguments) ([]any, api.Errno) {
			return expect.One(salt.Damage(a.cycles, a.rest, a.classes))
		}},
		{What: "CheckTank", Takes: list("tank"), Do: func(a arguments) ([]any, api.Errno) { return expect.None(salt.CheckTank(a.tank)) }},
		{What: "Level", Takes: list("tank"), Do: func(a arguments) ([]any, api.Errno) { return expect.One(salt.Level(a.tank)) }},
		{What: "Enthalpy", Takes: list("tank"), Do: func(a arguments) ([]any, api.Errno) { return expect.One(salt.Enthalpy(a.tank)) }},
		{What: "Warmth", Takes: list("tank", "index"), Do: func(a arguments) ([]any, api.Errno) { return expect.One(salt.Warmth(a.tank, a.index)) }},
		{What: "Charged", Takes: list("tank", "amount", "heat"), Do: func(a arguments) ([]any, api.Errno) { return expect.One(salt.Charged(a.tank, a.amount, a.heat)) }},
		{What: "Drawn from the top", Takes: list("tank", "amount"), Do: func(a arguments) ([]any, api.Errno) { return expect.Two(salt.Drawn(a.tank, a.amount, true)) }},
		{What: "Drawn from the bottom", Takes: list("tank", "amount"), Do: func(a arguments) ([]any, api.Errno) { return expect.Two(salt.Drawn(a.tank, a.amount, false)) }},
		{What: "Mixed", Takes: list("tank"), Do: func(a arguments) ([]any, api.Errno) { return expect.One(salt.Mixed(a.tank)) }},
		{What: "Cooled", Takes: list("tank", "share"), Do: func(a arguments) ([]any, api.Errno) { return expect.Two(salt.Cooled(a.tank, a.num, a.den)) }},
		{What: "Print", Takes: list("tank"), Do: func(a arguments) ([]any, api.Errno) { return expect.One(salt.Print(a.tank)) }},
	}
}

// isNothing reports whether all results are their zero values, where an empty list is one.
func isNothing(results []any) bool {
	return !slices.ContainsFunc(results, func(x any) bool {
		v := reflect.ValueOf(x)
		return !v.IsZero() && (v.Kind() != reflect.Slice || v.Len() > 0)
	})
}
