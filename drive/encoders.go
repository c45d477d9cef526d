package drive

import (
	"cmp"
	"slices"

	"spillage/api"
	"spillage/common"
	"spillage/light"
)

// encoder is one of three that vote.
type encoder struct {
	index int
	says  func() int
}

// nobody is the index of an encoder that is wrong, if none is for sure.
const nobody = -1

// sorted returns the encoders of three counts, by what they say.
func sorted(l [3]int) [3]encoder {
	var encoders [3]encoder
	for i, n := range l {
		encoders[i] = encoder{index: i, says: func() int { return n }}
	}
	slices.SortStableFunc(encoders[:], func(x, y encoder) int { return cmp.Compare(x.says(), y.says()) })
	return encoders
}

// Voted returns the count that two of three encoders agree on, and the one that does not.
func Voted(l [3]int, limit int) (int, int, api.Errno) {
	checks := common.Mapped(l[:], checkCount)
	if e := common.First(append(checks, common.CheckRange(limit, 0, MaxCount))...); e != api.OK {
		return 0, 0, e
	}
	encoders := sorted(l)
	a, b, c := encoders[0], encoders[1], encoders[2]
	vote := b.says()
	isNearA, isNearC := vote-a.says() <= limit, c.says()-vote <= limit
	switch {
	case isNearA && isNearC:
		return vote, nobody, api.OK
	case isNearA:
		return vote, c.index, api.OK
	case isNearC:
		return vote, a.index, api.OK
	}
	return 0, 0, api.ErrNone
}

// Overloads returns the spans of currents above a limit.
func Overloads(l []float32, limit float32, least int) ([]api.Span, api.Errno) {
	e := common.First(checkCurrents(l), light.CheckSample(limit), common.CheckRange(least, 1, MaxCurrents))
	if e != api.OK {
		return nil, e
	}
	var spans []api.Span
	for i, x := range l {
		if x > limit {
			spans = common.Extended(spans, i)
		}
	}
	return slices.DeleteFunc(spans, func(x api.Span) bool { return x.To-x.From < least }), api.OK
}

func checkCurrents(l []float32) api.Errno {
	return common.CheckList(l, MaxCurrents, light.CheckSample)
}
