package expect_test

import (
	"testing"

	"spillage/api"
	"spillage/expect"
)

// counted is a test that counts what it is told.
type counted struct {
	told int
}

func (c *counted) Helper() {}

func (c *counted) Errorf(string, ...any) { c.told++ }

func TestWhatIsTold(t *testing.T) {
	parse := func(s string) ([]byte, int, api.Errno) { return []byte(s), len(s), api.ErrForm }
	for _, x := range []struct {
		what string
		told int
		ask  func(t expect.Test)
	}{
		{"the same error", 0, func(t expect.Test) { expect.Err(t, "", api.ErrForm, api.ErrForm) }},
		{"another error", 1, func(t expect.Test) { expect.Err(t, "", api.ErrForm, api.OK) }},
		{"the same result", 0, func(t expect.Test) { expect.Result(t, "", 5, api.OK, 5, api.OK) }},
		{"another result", 1, func(t expect.Test) { expect.Result(t, "", 5, api.OK, 6, api.OK) }},
		{"another error of a result", 1, func(t expect.Test) { expect.Result(t, "", 5, api.ErrForm, 5, api.OK) }},
		{"the same list", 0, func(t expect.Test) { expect.List(t, "", []int{1, 2}, api.OK, []int{1, 2}, api.OK) }},
		{"no list and an empty one", 0, func(t expect.Test) { expect.List(t, "", []int{}, api.ErrForm, nil, api.ErrForm) }},
		{"another list", 1, func(t expect.Test) { expect.List(t, "", []int{1, 2}, api.OK, []int{2, 1}, api.OK) }},
		{"a longer list", 1, func(t expect.Test) { expect.List(t, "", []int{1, 2}, api.OK, []int{1}, api.OK) }},
		{"the same list of a text", 0, func(t expect.Test) { expect.Parsed(t, parse, "ab", []byte("ab"), 2, api.ErrForm) }},
		{"another list of a text", 1, func(t expect.Test) { expect.Parsed(t, parse, "ab", []byte("ba"), 2, api.ErrForm) }},
		{"another line of a text", 1, func(t expect.Test) { expect.Parsed(t, parse, "ab", []byte("ab"), 1, api.ErrForm) }},
		{"another error of a text", 1, func(t expect.Test) { expect.Parsed(t, parse, "ab", []byte("ab"), 2, api.OK) }},
		{"another error of a list", 1, func(t expect.Test) { expect.List(t, "", []int{1}, api.OK, []int{1}, api.ErrForm) }},
	} {
		c := &counted{}
		if x.ask(c); c.told != x.told {
			t.Errorf("%s: %d reports, want %d", x.what, c.told, x.told)
		}
	}
}

func TestOutside(t *testing.T) {
	l := expect.Outside(-3, 7)
	if l[0] != -4 || l[1] != 8 {
		t.Errorf("the numbers beside the range: %v", l[:2])
	}
	for _, n := range l {
		if n >= -3 && n <= 7 {
			t.Errorf("%d is within the range", n)
		}
	}
}
