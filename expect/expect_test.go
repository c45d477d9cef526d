package expect_test

import (
	"slices"
	"testing"

	"spillage/api"
	"spillage/expect"
)

// counted is a test that counts what it is told.
type counted struct {
	told int
}

func (c *counted) Helper() {}

func (c *counted) Errorf(string, ...any) { c.told++ }

func TestWhatIsTold(t *testing.T) {
	parse := func(s string) ([]byte, int, api.Errno) { return []byte(s), len(s), api.ErrForm }
	for _, x := range []struct {
		what string
		told int
		ask  func(t expect.Test)
	}{
		{"the same error", 0, func(t expect.Test) { expect.Err(t, "", api.ErrForm, api.ErrForm) }},
		{"another error", 1, func(t expect.Test) { expect.Err(t, "", api.ErrForm, api.OK) }},
		{"the same result", 0, func(t expect.Test) { expect.Result(t, "", 5, api.OK, 5, api.OK) }},
		{"another result", 1, func(t expect.Test) { expect.Result(t, "", 5, api.OK, 6, api.OK) }},
		{"another error of a result", 1, func(t expect.Test) { expect.Result(t, "", 5, api.ErrForm, 5, api.OK) }},
		{"the same list", 0, func(t expect.Test) { expect.List(t, "", []int{1, 2}, api.OK, []int{1, 2}, api.OK) }},
		{"no list and an empty one", 0, func(t expect.Test) { expect.List(t, "", []int{}, api.ErrForm, nil, api.ErrForm) }},
		{"another list", 1, func(t expect.Test) { expect.List(t, "", []int{1, 2}, api.OK, []int{2, 1}, api.OK) }},
		{"a longer list", 1, func(t expect.Test) { expect.List(t, "", []int{1, 2}, api.OK, []int{1}, api.OK) }},
		{"the same list of a text", 0, func(t expect.Test) { expect.Parsed(t, parse, "ab", []byte("ab"), 2, api.ErrForm) }},
		{"another list of a text", 1, func(t expect.Test) { expect.Parsed(t, parse, "ab", []byte("ba"), 2, api.ErrForm) }},
		{"another line of a text", 1, func(t expect.Test) { expect.Parsed(t, parse, "ab", []byte("ab"), 1, api.ErrForm) }},
		{"another error of a text", 1, func(t expect.Test) { expect.Parsed(t, parse, "ab", []byte("ab"), 2, api.OK) }},
		{"another error of a list", 1, func(t expect.Test) { expect.List(t, "", []int{1}, api.OK, []int{1}, api.ErrForm) }},
	} {
		c := &counted{}
		if x.ask(c); c.told != x.told {
			t.Errorf("%s: %d reports, want %d", x.what, c.told, x.told)
		}
	}
}

func TestOutside(t *testing.T) {
	l := expect.Outside(-3, 7)
	if l[0] != -4 || l[1] != 8 {
		t.Errorf("the numbers beside the range: %v", l[:2])
	}
	for _, n := range l {
		if n >= -3 && n <= 7 {
			t.Errorf("%d is within the range", n)
		}
	}
}

// pair is the arguments of a call, which returns the first one above 9 as its error.
type pair [2]int

func spoilt(i, n int) expect.Fault[pair] {
	return expect.Fault[pair]{Spoil: func(p *pair) { p[i] = n }, Err: api.Errno(n)}
}

func TestFirstFault(t *testing.T) {
	faults := map[string][]expect.Fault[pair]{"a": {spoilt(0, 10), spoilt(0, 11)}, "b": {spoilt(1, 12)}}
	right := func() pair { return pair{1, 2} }
	first := func(p pair) (bool, api.Errno) {
		if p[0] > 9 {
			return true, api.Errno(p[0])
		}
		return true, api.Errno(p[1])
	}
	second := func(p pair) (bool, api.Errno) {
		if p[1] > 9 {
			return true, api.Errno(p[1])
		}
		return true, api.Errno(p[0])
	}
	something := func(p pair) (bool, api.Errno) { return p[1] > 9, api.Errno(max(p[0], 9)) }
	for _, x := range []struct {
		what  string
		takes []string
		call  func(p pair) (bool, api.Errno)
		told  int
	}{
		{"the first one decides", []string{"a", "b"}, first, 0}, {"the second one decides", []string{"a", "b"}, second, 2}, {"the second one alone decides", []string{"b"}, second, 0}, {"none decides", []string{"b"}, func(pair) (bool, api.Errno) { return true, api.OK }, 2}, {"the others are taken the other way round", []string{"b", "a"}, second, 0}, {"something beside an error", []string{"a", "b"}, something, 4},
	} {
		c := &counted{}
		if expect.FirstFault(c, x.what, x.takes, right, faults, x.call); c.told != x.told {
			t.Errorf("%s: %d reports, want %d", x.what, c.told, x.told)
		}
	}
}

func TestFaults(t *testing.T) {
	var p pair
	faults := expect.Faults(api.ErrZero, func(p *pair, n int) { p[1] = n }, 3, 5)
	for i, wanted := range []int{3, 5} {
		if faults[i].Spoil(&p); p != (pair{0, wanted}) || faults[i].Err != api.ErrZero {
			t.Errorf("the fault %d makes %v, error %d", i, p, faults[i].Err)
		}
	}
	if l := expect.Faults(api.ErrZero, func(*pair, int) {}); len(faults) != 2 || len(l) != 0 {
		t.Errorf("there are %d faults of two values, and %d of none", len(faults), len(l))
	}
}

func TestRanged(t *testing.T) {
	outside := expect.Outside(-3, 7)
	faults := expect.Ranged(-3, 7, func(p *pair, n int) { p[1] = n })
	if len(faults) != len(outside) {
		t.Fatalf("there are %d faults of %d numbers", len(faults), len(outside))
	}
	for i, n := range outside {
		var p pair
		if faults[i].Spoil(&p); p != (pair{0, n}) || faults[i].Err != api.ErrRange {
			t.Errorf("the fault %d makes %v, error %d", i, p, faults[i].Err)
		}
	}
}

func TestLists(t *testing.T) {
	l := []int{1, 2}
	spare := expect.Spare(l)
	if !slices.Equal(spare, l) || cap(spare) <= len(spare) {
		t.Errorf("Spare: %v of %d", spare, cap(spare))
	}
	expect.Fill(spare[:1], 7)
	if all := spare[:cap(spare)]; !slices.Equal(all, slices.Repeat([]int{7}, len(all))) || !slices.Equal(l, []int{1, 2}) {
		t.Errorf("Fill: %v, and %v", all, l)
	}
	expect.Fill(nil, 7)
}

func TestResults(t *testing.T) {
	none, e := expect.None(api.ErrZero)
	one, f := expect.One(5, api.ErrForm)
	two, g := expect.Two("a", 6, api.ErrShape)
	three, h := expect.Three(7, "b", true, api.OK)
	if len(none) != 0 || !slices.Equal(one, []any{5}) || !slices.Equal(two, []any{"a", 6}) || !slices.Equal(three, []any{7, "b", true}) {
		t.Errorf("the results are %v, %v, %v and %v", none, one, two, three)
	}
	if e != api.ErrZero || f != api.ErrForm || g != api.ErrShape || h != api.OK {
		t.Errorf("the errors are %d, %d, %d and %d", e, f, g, h)
	}
}

// takings returns a call with an error of the right arguments, which notes what it takes.
func takings(notes *[]pair, wanted api.Errno) []expect.Call[pair] {
	return []expect.Call[pair]{{What: "taken", Takes: []string{"a", "b"}, Err: wanted, Do: func(p pair) ([]any, api.Errno) {
		*notes = append(*notes, p)
		for _, n := range p {
			if n > 9 {
				return expect.One(0, api.Errno(n))
			}
		}
		return expect.One(p[0]+p[1], api.OK)
	}}}
}

func TestCalls(t *testing.T) {
	var notes []pair
	right := func() pair { return pair{1, 2} }
	isZero := func(results []any) bool { return slices.Equal(results, []any{0}) }
	isAll := func(results []any) bool { return len(results) > 1 }
	faults := map[string][]expect.Fault[pair]{"a": {spoilt(0, 10)}, "b": {spoilt(1, 12)}}
	for _, x := range []struct {
		what string
		told int
		ask  func(t expect.Test)
	}{
		{"the error of the right arguments", 0, func(t expect.Test) { expect.RightArguments(t, takings(&notes, api.OK), right) }},
		{"another error of the right arguments", 1, func(t expect.Test) { expect.RightArguments(t, takings(&notes, api.ErrZero), right) }},
		{"the first faults", 0, func(t expect.Test) { expect.FirstFaults(t, takings(&notes, api.OK), right, faults, isZero) }},
		{"something beside an error", 4, func(t expect.Test) { expect.FirstFaults(t, takings(&notes, api.OK), right, faults, isAll) }},
	} {
		c := &counted{}
		if x.ask(c); c.told != x.told {
			t.Errorf("%s: %d reports, want %d", x.what, c.told, x.told)
		}
	}
	notes = nil
	expect.CallAll(takings(&notes, api.OK), pair{3, 4})
	expect.CallAfter(takings(&notes, api.OK), right, func(p *pair) { p[0] = 5 }, func(p *pair) { p[1] = 6 })
	if !slices.Equal(notes, []pair{{3, 4}, {5, 2}, {1, 6}}) {
		t.Errorf("the calls took %v", notes)
	}
}
