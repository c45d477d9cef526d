package plant

import (
	"slices"

	"spillage/api"
	"spillage/common"
)

// page is an event that counts, with the register after it.
type page struct {
	api.Event
	Register
}

// history is the events that were accepted, and a page for each one that counts.
type history struct {
	events []api.Event
	pages  []page
}

// clipped returns the history without room behind its lists, so that what is added to
// one copy of it never comes into another one.
func (h history) clipped() history {
	return history{events: slices.Clip(h.events), pages: slices.Clip(h.pages)}
}

// register returns the register after all events.
func (h history) register() Register {
	if len(h.pages) == 0 {
		return Register{}
	}
	return h.pages[len(h.pages)-1].Register
}

// pagesAfter returns the pages after an event that is right by itself, or the error with
// which it is not accepted, whatever its Number is.
func (k kinds) pagesAfter(h history, e api.Event) ([]page, api.Errno) {
	if e.Kind == undo {
		return k.undone(h.pages)
	}
	r, bad := k[e.Kind].after(h.register(), e)
	if bad != api.OK {
		return nil, bad
	}
	return append(h.pages, page{Event: e, Register: r}), api.OK
}

// undone returns pages without the last one.
func (k kinds) undone(pages []page) ([]page, api.Errno) {
	last := len(pages) - 1
	if last < 0 {
		return nil, api.ErrEmpty
	}
	if k[pages[last].Kind].isFinal {
		return nil, api.ErrRule
	}
	return pages[:last], api.OK
}

// after returns a history with an event more, or the error of CheckEvent, or that with
// which the event is not accepted.
func (k kinds) after(h history, e api.Event) (history, api.Errno) {
	bad := common.First(k.check(e), common.When(e.Number != len(h.events)+1, api.ErrOrder))
	if bad != api.OK {
		return history{}, bad
	}
	pages, bad := k.pagesAfter(h, e)
	if bad != api.OK {
		return history{}, bad
	}
	return history{events: append(h.events, e), pages: pages}, api.OK
}

// replayed returns the history of some events, or the number of the first one that is
// wrong, and its error.
func (k kinds) replayed(l []api.Event) (history, int, api.Errno) {
	if len(l) > api.MaxEvents {
		return history{}, 0, api.ErrMany
	}
	var h history
	for i, e := range l {
		next, bad := k.after(h, e)
		if bad != api.OK {
			return history{}, i + 1, bad
		}
		h = next
	}
	return h, 0, api.OK
}

// Replay returns the register after some events.
func Replay(l []api.Event) (Register, int, api.Errno) {
	h, number, bad := allKinds().replayed(l)
	return h.register(), number, bad
}

// Accepts returns the error with which an event is not accepted after others, or OK.
func Accepts(l []api.Event, e api.Event) api.Errno {
	k := allKinds()
	h, _, bad := k.replayed(l)
	bad = common.First(bad, k.check(e), common.When(len(l) == api.MaxEvents, api.ErrMany))
	if bad != api.OK {
		return bad
	}
	_, bad = k.after(h, e)
	return bad
}

// AsOf returns the register of the events up to a tick.
func AsOf(l []api.Event, tick int) (Register, api.Errno) {
	h, _, bad := allKinds().replayed(l)
	if bad = common.First(bad, common.CheckRange(tick, 0, api.MaxNumber)); bad != api.OK {
		return Register{}, bad
	}
	var r Register
	for _, p := range h.pages {
		if p.Tick <= tick {
			r = p.Register
		}
	}
	return r, api.OK
}

// Story returns the story of a mirror.
func Story(l []api.Event, mirror string) ([]api.Event, api.Errno) {
	k := allKinds()
	h, _, bad := k.replayed(l)
	m := h.register().mirror(mirror)
	if bad = common.First(bad, common.When(m == Mirror{}, api.ErrUnknown)); bad != api.OK {
		return nil, bad
	}
	var story []api.Event
	for _, p := range h.pages {
		if k[p.Kind].names.areOf(m, p.Names) {
			e := copied(p.Event)
			e.Number = len(story) + 1
			story = append(story, e)
		}
	}
	return story, api.OK
}

func copied(e api.Event) api.Event {
	e.Names, e.Values = slices.Clone(e.Names), slices.Clone(e.Values)
	return e
}
