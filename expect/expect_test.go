package expect_test

import (
	"testing"

	"spillage/api"
	"spillage/expect"
)

// counted is a test that counts what it is told.
type counted struct {
	told int
}

func (c *counted) Helper() {}

func (c *counted) Errorf(string, ...any) { c.told++ }

func TestWhatIsTold(t *testing.T) {
	for _, x := range []struct {
		what string
		told int
		ask  func(t expect.Test)
	}{
		{"the same error", 0, func(t expect.Test) { expect.Err(t, "", api.ErrForm, api.ErrForm) }},
		{"another error", 1, func(t expect.Test) { expect.Err(t, "", api.ErrForm, api.OK) }},
		{"the same result", 0, func(t expect.Test) { expect.Result(t, "", 5, api.OK, 5, api.OK) }},
		{"another result", 1, func(t expect.Test) { expect.Result(t, "", 5, api.OK, 6, api.OK) }},
		{"another error of a result", 1, func(t expect.Test) { expect.Result(t, "", 5, api.ErrForm, 5, api.OK) }},
		{"the same list", 0, func(t expect.Test) { expect.List(t, "", []int{1, 2}, api.OK, []int{1, 2}, api.OK) }},
		{"no list and an empty one", 0, func(t expect.Test) { expect.List(t, "", []int{}, api.ErrForm, nil, api.ErrForm) }},
		{"another list", 1, func(t expect.Test) { expect.List(t, "", []int{1, 2}, api.OK, []int{2, 1}, api.OK) }},
		{"a longer list", 1, func(t expect.Test) { expect.List(t, "", []int{1, 2}, api.OK, []int{1}, api.OK) }},
		{"another error of a list", 1, func(t expect.Test) { expect.List(t, "", []int{1}, api.OK, []int{1}, api.ErrForm) }},
	} {
		c := &counted{}
		if x.ask(c); c.told != x.told {
			t.Errorf("%s: %d reports, want %d", x.what, c.told, x.told)
		}
	}
}
