package drive_test

import (
	"math/rand"
	"slices"
	"testing"

	"spillage/api"
	"spillage/drive"
	"spillage/expect"
)

// P3.5, and P4 of the whole document

// walked returns where the mirror is after steps, from one count of it.
func walked(a drive.Axis, motor, mirror int, steps []int) int {
	for _, step := range steps {
		motor += step
		mirror = left(a.Play, mirror, motor)
	}
	return mirror
}

func TestTheMirrorIsInTheState(t *testing.T) {
	r := rand.New(rand.NewSource(36))
	for range 2000 {
		a, s := randomSeat(r, 15)
		var steps []int
		motor := s.Motor
		for range r.Intn(8) {
			next := between(r, a.Least, a.Most)
			steps = append(steps, next-motor)
			motor = next
		}
		after, e := drive.Moved(a, s, steps)
		expect.Err(t, "Moved", e, api.OK)
		for mirror := s.Mirror.Low; mirror <= s.Mirror.High; mirror++ {
			if m := walked(a, s.Motor, mirror, steps); m < after.Mirror.Low || m > after.Mirror.High {
				t.Fatalf("the mirror from %d in %v by %v is at %d, not in %v", mirror, s, steps, m, after)
			}
		}
	}
}

func TestAReferenceRunKnowsTheMirror(t *testing.T) {
	r := rand.New(rand.NewSource(37))
	runs := 0
	for range 2000 {
		a, s := randomSeat(r, 15)
		after, steps, e := drive.Referenced(a, s)
		if a.Least+a.Play > a.Most {
			expect.Err(t, "Referenced of a short axis", e, api.ErrLimit)
			continue
		}
		runs++
		expect.Result(t, "Referenced", after, e, state(a.Least+a.Play, a.Least, a.Least), api.OK)
		again, e := drive.Moved(a, s, steps)
		expect.Result(t, "Moved by the steps of a reference run", again, e, after, api.OK)
		for back := range a.Play + 1 {
			x, e := drive.Moved(a, after, []int{-back})
			expect.Result(t, "Moved back within the play", x, e, state(after.Motor-back, a.Least, a.Least), api.OK)
		}
	}
	if runs < 1000 {
		t.Fatalf("only %d reference runs", runs)
	}
}

// seenBy returns spots that a pair permits.
func seenBy(r *rand.Rand, gain, offset, n int) []drive.Spot {
	var l []drive.Spot
	for range n {
		count := between(r, -50, 50)
		place := offset + gain*count
		l = append(l, spot(count, place-r.Intn(40), place+r.Intn(40)))
	}
	return l
}

func TestAPairThatSawAllSpotsIsInTheModel(t *testing.T) {
	r := rand.New(rand.NewSource(38))
	for range 2000 {
		gain, offset := between(r, -20, 20), between(r, -500, 500)
		l := seenBy(r, gain, offset, between(r, 1, 6))
		m, e := drive.Fitted(l, at(-30, 30))
		expect.Err(t, "Fitted", e, api.OK)
		has, e := drive.Has(m, gain, offset)
		expect.Result(t, "Has the pair that saw the spots", has, e, true, api.OK)
		further := seenBy(r, gain, offset, 1)[0]
		refined, e := drive.Refined(m, further)
		expect.Err(t, "Refined", e, api.OK)
		for _, pair := range pairsOf(m) {
			has, e := drive.Has(refined, pair[0], pair[1])
			expect.Result(t, "Has, after a further spot", has, e, allows(further, pair[0], pair[1]), api.OK)
		}
		left, _ := drive.Pairs(refined)
		all, _ := drive.Pairs(m)
		if left > all {
			t.Fatalf("a further spot takes %d pairs to %d", all, left)
		}
		together, e := drive.Fitted(append(slices.Clone(l), further), at(-30, 30))
		expect.List(t, "Fitted, and refined", together, e, refined, api.OK)
	}
}

func TestACountThatHitsForSureHits(t *testing.T) {
	r := rand.New(rand.NewSource(39))
	hits := 0
	for range 3000 {
		a, s := randomSeat(r, 12)
		m := randomModel(r)
		low := between(r, -60, 40)
		target := at(low, low+20+r.Intn(40))
		n, e := drive.Inverted(a, s, m, target)
		if e != api.OK {
			continue
		}
		hits++
		if !isHit(a, s, m, target, n) {
			t.Fatalf("%v %v %v %v: %d misses", a, s, m, target, n)
		}
		distance := max(n-s.Motor, s.Motor-n)
		for nearer := max(a.Least, s.Motor-distance+1); nearer <= min(a.Most, s.Motor+distance-1); nearer++ {
			if isHit(a, s, m, target, nearer) {
				t.Fatalf("%v %v %v %v: %d is nearer than %d", a, s, m, target, nearer, n)
			}
		}
		after, e := drive.Moved(a, s, []int{n - s.Motor})
		expect.Err(t, "Moved to the count", e, api.OK)
		within, e := drive.Within(m, after.Mirror)
		expect.Err(t, "Within", e, api.OK)
		proved, e := drive.CheckInverted(a, s, m, target, n)
		expect.Result(t, "CheckInverted", proved, e, within, api.OK)
	}
	if hits < 500 {
		t.Fatalf("only %d targets were hit", hits)
	}
}

func TestPointedIsInvertedTwice(t *testing.T) {
	r := rand.New(rand.NewSource(40))
	for range 1000 {
		var l [2]task
		var counts [2]int
		wanted := api.OK
		for i := range l {
			a, s := randomSeat(r, 12)
			low := between(r, -80, 40)
			l[i] = task{a, s, randomModel(r), at(low, low+60)}
			n, e := drive.Inverted(l[i].a, l[i].s, l[i].m, l[i].target)
			counts[i] = n
			wanted = max(wanted, e)
		}
		if wanted != api.OK {
			counts = [2]int{}
		}
		got, e := both(l[0], l[1])
		expect.Result(t, "Pointed", got, e, counts, wanted)
	}
}

func TestADriftOfNothing(t *testing.T) {
	r := rand.New(rand.NewSource(41))
	for range 500 {
		m, by := randomModel(r), interval(r, -9, 9)
		still, e := drive.Drifted(m, at(0, 0))
		expect.List(t, "Drifted by nothing", still, e, m, api.OK)
		drifted, e := drive.Drifted(m, by)
		expect.Err(t, "Drifted", e, api.OK)
		for _, pair := range pairsOf(m) {
			for n := by.Low; n <= by.High; n++ {
				has, e := drive.Has(drifted, pair[0], pair[1]+n)
				expect.Result(t, "Has a pair that has drifted", has, e, true, api.OK)
			}
		}
	}
}

func TestATrackEndsAtItsGoals(t *testing.T) {
	r := rand.New(rand.NewSource(42))
	for range 1000 {
		from, to := [2]int{between(r, -90, 90), between(r, -90, 90)}, [2]int{between(r, -90, 90), between(r, -90, 90)}
		rates := [2]int{between(r, 1, 30), between(r, 1, 30)}
		track, e := drive.Track(from, to, rates)
		expect.Err(t, "Track", e, api.OK)
		ticks := 0
		for i := range 2 {
			distance := max(to[i]-from[i], from[i]-to[i])
			ticks = max(ticks, (distance+rates[i]-1)/rates[i])
		}
		if len(track) != ticks+1 || track[0] != from || track[ticks] != to {
			t.Fatalf("the track from %v to %v by %v is %v, want %d ticks", from, to, rates, track, ticks)
		}
		for k, x := range track[1:] {
			for i := range 2 {
				before := track[k][i]
				moved, way := max(x[i]-before, before-x[i]), max(to[i]-before, before-to[i])
				if moved != min(way, rates[i]) || max(to[i]-x[i], x[i]-to[i]) != way-moved {
					t.Fatalf("the track from %v to %v by %v has %v after %v", from, to, rates, x, track[k])
				}
			}
		}
	}
}

func TestOneWrongEncoder(t *testing.T) {
	r := rand.New(rand.NewSource(43))
	for range 2000 {
		limit := r.Intn(20)
		low := between(r, -500, 480)
		high := low + r.Intn(limit+1)
		wrong := between(r, -1000, 1000)
		l := [3]int{low, high, wrong}
		r.Shuffle(3, func(i, k int) { l[i], l[k] = l[k], l[i] })
		vote, index, e := drive.Voted(l, limit)
		expect.Err(t, "Voted", e, api.OK)
		if vote < low || vote > high {
			t.Fatalf("the vote of %v by %d is %d, want one from %d to %d", l, limit, vote, low, high)
		}
		if wrong >= low-limit && wrong <= high+limit {
			continue
		}
		if index != slices.Index(l[:], wrong) {
			t.Fatalf("the vote of %v by %d finds the encoder %d, want that with %d", l, limit, index, wrong)
		}
	}
}

func TestModelsComeBack(t *testing.T) {
	r := rand.New(rand.NewSource(44))
	for range 500 {
		var m []drive.Band
		for gain := -1000 + r.Intn(1900); gain <= 1000 && len(m) < 64; gain += 1 + r.Intn(40) {
			m = append(m, drive.Band{Gain: gain, Offset: interval(r, -2000000, 2000000)})
		}
		text, e := drive.Print(m)
		expect.Err(t, "Print", e, api.OK)
		expect.Parsed(t, drive.Parse, text, m, 0, api.OK)
	}
}
