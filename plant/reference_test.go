package plant_test

import (
	"slices"
	"strconv"
	"strings"

	"spillage/api"
	"spillage/plant"
)

// The functions of this file are the chapter's definitions, by all events that count, without a thought of how long they take.

// counting returns the events that count after all of some events.
func counting(l []api.Event) []api.Event {
	var out []api.Event
	for _, e := range l {
		if e.Kind == "undo" {
			out = out[:len(out)-1]
		} else {
			out = append(out, e)
		}
	}
	return out
}

func tickOf(e api.Event) int { return e.Values[0] }

// last returns the last event of some kinds, and of those that have a name at their beginning of those with this name; or no event.
func last(l []api.Event, name string, kinds ...string) api.Event {
	for _, e := range slices.Backward(l) {
		if slices.Contains(kinds, e.Kind) && (len(e.Names) == 0 || e.Names[0] == name) {
			return e
		}
	}
	return api.Event{}
}

// all returns the events of a kind.
func all(l []api.Event, kind string) []api.Event {
	return slices.DeleteFunc(slices.Clone(l), func(e api.Event) bool { return e.Kind != kind })
}

func isFilled(l []api.Event) bool { return last(l, "", "fill", "drain").Kind == "fill" }

func isTripped(l []api.Event) bool { return last(l, "", "trip", "reset").Kind == "trip" }

func levelOf(l []api.Event) int {
	if e := last(l, "", "sun"); e.Number > 0 {
		return e.Values[1]
	}
	return 0
}

// mirrorsOf returns the mirrors, by the last events about each of them.
func mirrorsOf(l []api.Event) []plant.Mirror {
	var out []plant.Mirror
	for _, e := range all(l, "mirror") {
		m := plant.Mirror{Name: e.Names[0], Sector: e.Names[1], Area: e.Values[1]}
		if soiled := last(l, m.Name, "soil", "clean"); soiled.Kind == "soil" {
			m.Soil = soiled.Values[1]
		}
		m.Defect = last(l, m.Name, "defect", "repair").Kind == "defect"
		moved := last(l, m.Name, "aim", "park", "trip")
		m.Aimed = moved.Kind == "aim" && last(l, m.Sector, "dim").Number < moved.Number
		out = append(out, m)
	}
	return out
}

func offersOf(l []api.Event) []plant.Offer {
	var out []plant.Offer
	for _, e := range all(l, "offer") {
		o := plant.Offer{Name: e.Names[0], Span: api.Span{From: e.Values[1], To: e.Values[2]}, Energy: e.Values[3], Price: e.Values[4]}
		for _, d := range all(l, "deliver") {
			if d.Names[0] == o.Name {
				o.Delivered += d.Values[1]
			}
		}
		o.Billed = last(l, o.Name, "bill").Number > 0
		out = append(out, o)
	}
	return out
}

func rateOf(l []api.Event) int {
	rate := 0
	for _, m := range mirrorsOf(l) {
		if m.Aimed {
			rate += m.Area * (1000 - m.Soil) * levelOf(l)
		}
	}
	return rate
}

func lastTick(l []api.Event) int {
	if len(l) == 0 {
		return 0
	}
	return tickOf(l[len(l)-1])
}

// lightAt returns the light at a tick that is not before the last event that counts.
func lightAt(l []api.Event, tick int) int {
	light := rateOf(l) * (tick - lastTick(l))
	for i, e := range l {
		if tickOf(e) > lastTick(l[:i]) {
			light += rateOf(l[:i]) * (tickOf(e) - lastTick(l[:i]))
		}
	}
	return light
}

// drawn returns the heat that all deliveries took.
func drawn(l []api.Event) int {
	heat := 0
	for _, e := range all(l, "deliver") {
		heat += e.Values[1] * 1000000
	}
	return heat
}

func billOf(o plant.Offer) int {
	return o.Price*o.Delivered - 2*o.Price*(o.Energy-o.Delivered)
}

// registerOf returns the register after events that count.
func registerOf(l []api.Event) plant.Register {
	r := plant.Register{Tick: lastTick(l), Level: levelOf(l), Filled: isFilled(l), Tripped: isTripped(l), Light: lightAt(l, lastTick(l)), Mirrors: mirrorsOf(l), Offers: offersOf(l)}
	r.Heat = r.Light - drawn(l)
	for _, e := range all(l, "sector") {
		r.Sectors = append(r.Sectors, e.Names[0])
	}
	for _, o := range r.Offers {
		if o.Billed {
			r.Money += billOf(o)
		}
	}
	return r
}

// named returns the element of a list with a name, or false.
func named[T any](l []T, name string, nameOf func(T) string) (T, bool) {
	i := slices.IndexFunc(l, func(x T) bool { return nameOf(x) == name })
	if i < 0 {
		return *new(T), false
	}
	return l[i], true
}

func mirrorName(m plant.Mirror) string { return m.Name }

func offerName(o plant.Offer) string { return o.Name }

// refusal returns the error with which an event that is right by itself is not accepted after others, or OK.
func refusal(l []api.Event, e api.Event) api.Errno {
	if e.Number != len(l)+1 {
		return api.ErrOrder
	}
	counted := counting(l)
	if e.Kind == "undo" {
		if len(counted) == 0 {
			return api.ErrEmpty
		}
		if kind := counted[len(counted)-1].Kind; kind == "deliver" || kind == "bill" {
			return api.ErrRule
		}
		return api.OK
	}
	if tickOf(e) < lastTick(counted) {
		return api.ErrState
	}
	light := lightAt(counted, tickOf(e))
	if light > 1e15 { // the heat is never more
		return api.ErrLarge
	}
	r := registerOf(counted)
	if x := refusalOfNames(r, e); x != api.OK {
		return x
	}
	r.Heat = light - drawn(counted)
	switch e.Kind {
	case "offer", "deliver", "bill":
		return refusalOfOffer(r, e)
	case "sun", "fill", "drain", "trip", "reset":
		return refusalOfReceiver(r, e)
	}
	return refusalOfMirror(r, e)
}

func refusalOfNames(r plant.Register, e api.Event) api.Errno {
	var known, added bool
	if len(e.Names) > 0 {
		_, isMirror := named(r.Mirrors, e.Names[0], mirrorName)
		_, isOffer := named(r.Offers, e.Names[0], offerName)
		switch e.Kind {
		case "sector":
			known, added = true, slices.Contains(r.Sectors, e.Names[0])
		case "mirror":
			known, added = slices.Contains(r.Sectors, e.Names[1]), isMirror
		case "offer":
			known, added = true, isOffer
		case "dim":
			known = slices.Contains(r.Sectors, e.Names[0])
		case "deliver", "bill":
			known = isOffer
		default:
			known = isMirror
		}
	}
	switch {
	case len(e.Names) > 0 && !known:
		return api.ErrUnknown
	case added:
		return api.ErrTwice
	}
	return api.OK
}

func refusalOfMirror(r plant.Register, e api.Event) api.Errno {
	m, _ := named(r.Mirrors, e.Names[0], mirrorName)
	switch {
	case e.Kind == "sector" && len(r.Sectors) == 8:
		return api.ErrMany
	case e.Kind == "mirror" && (e.Values[1] < 1 || e.Values[1] > 100):
		return api.ErrRange
	case e.Kind == "mirror" && len(r.Mirrors) == 32:
		return api.ErrMany
	case e.Kind == "soil" && e.Values[1] > 1000:
		return api.ErrRange
	case e.Kind == "defect" && m.Defect:
		return api.ErrTwice
	case e.Kind == "defect" && m.Aimed:
		return api.ErrHeld
	case e.Kind == "repair" && !m.Defect:
		return api.ErrState
	case e.Kind == "aim" && !r.Filled:
		return api.ErrCold
	case e.Kind == "aim" && r.Tripped:
		return api.ErrLocked
	case e.Kind == "aim" && m.Defect:
		return api.ErrRule
	case e.Kind == "aim" && m.Aimed:
		return api.ErrTwice
	case e.Kind == "park" && !m.Aimed:
		return api.ErrState
	}
	return api.OK
}

func refusalOfReceiver(r plant.Register, e api.Event) api.Errno {
	isAimed := slices.ContainsFunc(r.Mirrors, func(m plant.Mirror) bool { return m.Aimed })
	switch {
	case e.Kind == "sun" && e.Values[1] > 1000:
		return api.ErrRange
	case e.Kind == "fill" && r.Filled:
		return api.ErrTwice
	case e.Kind == "drain" && !r.Filled:
		return api.ErrState
	case e.Kind == "drain" && isAimed:
		return api.ErrHeld
	case e.Kind == "trip" && r.Tripped:
		return api.ErrTwice
	case e.Kind == "reset" && !r.Tripped:
		return api.ErrState
	}
	return api.OK
}

func refusalOfOffer(r plant.Register, e api.Event) api.Errno {
	o, _ := named(r.Offers, e.Names[0], offerName)
	tick := tickOf(e)
	switch {
	case e.Kind == "offer" && (e.Values[1] < tick || e.Values[1] >= e.Values[2]):
		return api.ErrSpan
	case e.Kind == "offer" && (e.Values[3] < 1 || e.Values[3] > 1000 || e.Values[4] > 1000):
		return api.ErrRange
	case e.Kind == "offer" && len(r.Offers) == 32:
		return api.ErrMany
	case e.Kind != "offer" && o.Billed:
		return api.ErrOver
	case e.Kind == "deliver" && (tick < o.Span.From || tick >= o.Span.To):
		return api.ErrSpan
	case e.Kind == "deliver" && e.Values[1] == 0:
		return api.ErrRange
	case e.Kind == "deliver" && e.Values[1] > o.Energy-o.Delivered:
		return api.ErrLimit
	case e.Kind == "deliver" && e.Values[1]*1000000 > r.Heat:
		return api.ErrShort
	case e.Kind == "bill" && tick < o.Span.To:
		return api.ErrOpen
	}
	return api.OK
}

// storyOf returns those of the events that count which are about a mirror, or about the plant as a whole.
func storyOf(l []api.Event, m plant.Mirror) []api.Event {
	var story []api.Event
	for _, e := range l {
		isOf := false
		switch e.Kind {
		case "sector", "dim":
			isOf = e.Names[0] == m.Sector
		case "mirror", "soil", "clean", "defect", "repair", "aim", "park":
			isOf = e.Names[0] == m.Name
		case "sun", "fill", "drain", "trip", "reset":
			isOf = true
		}
		if isOf {
			e.Number = len(story) + 1
			story = append(story, e)
		}
	}
	return story
}

// checked returns a record with some bytes as its body.
func checked(body string) string {
	x := 1
	for i := range len(body) {
		x = (353*x + int(body[i])) % 9999649
	}
	check := strconv.Itoa(x)
	return body + "#" + strings.Repeat("0", 7-len(check)) + check + "\n"
}

// recordOf returns the record of an event.
func recordOf(e api.Event) string {
	body := strconv.Itoa(e.Number) + " " + e.Kind
	for _, name := range e.Names {
		body += " " + name
	}
	for _, n := range e.Values {
		body += " " + strconv.Itoa(n)
	}
	return checked(body)
}
