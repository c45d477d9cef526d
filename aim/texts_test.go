package aim_test

import (
	"slices"
	"strings"
	"testing"

	"spillage/aim"
	"spillage/api"
	"spillage/expect"
)

// P5.5

// wantPlan checks what Parse returns for a text of a plan.
func wantPlan(t *testing.T, l []aim.Spot, s string, wanted []int, index int, e api.Errno) {
	t.Helper()
	parse := func(s string) ([]int, int, api.Errno) { return aim.Parse(l, s) }
	expect.Parsed(t, parse, s, wanted, index, e)
}

func TestPrintAndParse(t *testing.T) {
	standby := aim.None
	none := aim.Spot{Name: "none", Map: table(1, 1, 1), Aims: points(7, -8)}
	for _, x := range []struct {
		l    []aim.Spot
		p    []int
		text string
	}{
		{spots(spotS(), spotT()), ints(0, standby), "aim s 0 0\naim t none\n"}, {spots(spotS(), spotT()), ints(2, 1), "aim s 2 0\naim t 1 0\n"}, {spots(spotS(), spotT()), ints(standby, standby), "aim s none\naim t none\n"}, {spots(spotT(), spotS()), ints(0, 1), "aim t 0 0\naim s 1 0\n"}, {nil, nil, ""}, {spots(none), ints(0), "aim none 7 -8\n"}, {spots(none), ints(standby), "aim none none\n"},
		{spots(greatest()), ints(0), "aim Abcdefghij_lmnopqrstuvw9 -100 -100\n"}, {spots(greatest()), ints(1), "aim Abcdefghij_lmnopqrstuvw9 100 100\n"}, {spots(greatest()), ints(2), "aim Abcdefghij_lmnopqrstuvw9 -100 100\n"}, {spots(greatest()), ints(5), "aim Abcdefghij_lmnopqrstuvw9 -3 -3\n"}, {spots(altered(func(x *aim.Spot) { x.Name = "aim" })), ints(1), "aim aim 1 0\n"},
	} {
		text, e := aim.Print(x.l, x.p)
		expect.Result(t, "Print", text, e, x.text, api.OK)
		wantPlan(t, x.l, x.text, x.p, 0, api.OK)
	}
}

// wrongLines are lines that do not have their form.
func wrongLines() []string {
	return []string{
		"\n", " \n", "aim\n", "aim \n", "aim s\n", "aim s \n", "aim s 0\n", "aim s 0 \n", "aim s 0 0 \n", "aim s 0 0 0\n", "aim s  0 0\n", "aim s 0  0\n", "aim  s 0 0\n", " aim s 0 0\n", "aim  0 0\n", "aim 0 0\n", "aim  none\n", "aim none\n", "aim  0\n", "aim   \n", "aim s s 0 0\n",
		"aim s none \n", "aim s  none\n", "aim s none 0\n", "aim s none none\n", "aim s none 0 0\n", "aim s 0 none\n", "aim s none1\n", "aim s None\n", "aim s NONE\n", "aim s nono\n", "aim s non\n", "aim s -1\n", "aim s \n\n", "aim s none\t\n", "aim s\tnone\n", "aim\ts none\n", "Aim s 0 0\n", "aims 0 0\n", "aims s 0 0\n", "ai s 0 0\n", "band s 0 0\n", "s 0 0\n", "none\n",
		"aim s -0 0\n", "aim s 0 -0\n", "aim s 00 0\n", "aim s 0 00\n", "aim s 01 0\n", "aim s 0 -01\n", "aim s +1 0\n", "aim s 0 +0\n", "aim s x 0\n", "aim s 0 y\n", "aim s 1.0 0\n", "aim s - 0\n", "aim s 0 --1\n", "aim s 0x1 0\n", "aim s 1e0 0\n", "aim s 1_0 0\n", "aim s 0,0\n", "aim s 0 0\r\n", "aim s 0 0\x00\n", "aim s \u0661 0\n", "aim s 0 0\xff\n", "\xff\n", "aim s 1234567890 0\n", "aim s 0 -1234567890\n", "aim s 0000000000 0\n", "aim s 9223372036854775808 0\n",
		"aim s 0 0", "aim s none", "aim", "a", " ", "aim s 0", "x",
	}
}

func TestParseOfWrongLines(t *testing.T) {
	one, three := spots(spotS()), spots(spotT(), pixel("p", 1), spotS())
	for _, line := range wrongLines() {
		wantPlan(t, one, line, nil, 0, api.ErrSyntax)
		wantPlan(t, three, "aim t 1 0\naim p none\n"+line, nil, 2, api.ErrSyntax)
		wantPlan(t, nil, line, nil, 0, api.ErrSyntax)
		wantPlan(t, one, "aim s 0 0\n"+line, nil, 1, api.ErrSyntax)
		if strings.HasSuffix(line, "\n") {
			wantPlan(t, three, "aim t 1 0\n"+line+"aim s 9 9\n", nil, 1, api.ErrSyntax)
		}
	}
	wantPlan(t, one, "aim s 0 0\n\n", nil, 1, api.ErrSyntax)
	wantPlan(t, one, "aim s 0 0\naim s 0 0", nil, 1, api.ErrSyntax)
}

func TestParseOfOtherPlans(t *testing.T) {
	l := spots(spotS(), spotT())
	for _, x := range []struct {
		s     string
		index int
		e     api.Errno
	}{
		{"", 0, api.ErrShape}, {"aim s 0 0\n", 1, api.ErrShape}, {"aim t none\n", 0, api.ErrShape}, {"aim t none\naim s 0 0\n", 0, api.ErrShape}, {"aim s 0 0\naim s 0 0\n", 1, api.ErrShape}, {"aim S 0 0\naim t none\n", 0, api.ErrShape}, {"aim ss 0 0\n", 0, api.ErrShape}, {"aim s 0 0\naim u none\n", 1, api.ErrShape}, {"aim s 0 0\naim t none\naim u none\n", 2, api.ErrShape}, {"aim s 0 0\naim t none\naim t none\n", 2, api.ErrShape}, {"aim s 0 0\naim t none\naim s none\naim\n", 2, api.ErrShape},
		{"aim s 5 0\n", 0, api.ErrUnknown}, {"aim s 0 1\n", 0, api.ErrUnknown}, {"aim s -1 0\naim t none\n", 0, api.ErrUnknown}, {"aim s 999999999 -999999999\n", 0, api.ErrUnknown}, {"aim s 101 0\n", 0, api.ErrUnknown}, {"aim s 0 0\naim t 2 0\n", 1, api.ErrUnknown}, {"aim s 0 0\naim t 2 0\naim u\n", 1, api.ErrUnknown}, {"aim s 3 0\naim u none\n", 0, api.ErrUnknown}, {"aim s none\naim t 0 1\n", 1, api.ErrUnknown},
		{"aim u 5 0\n", 0, api.ErrShape}, {"aim 7 none\n", 0, api.ErrShape}, {"aim \xff none\n", 0, api.ErrShape}, {"aim s\t 0 0\n", 0, api.ErrShape}, {"aim a-b 0 0\n", 0, api.ErrShape}, {"aim none none\n", 0, api.ErrShape}, {"aim 0 0 0\n", 0, api.ErrShape}, {"aim " + strings.Repeat("s", 3000) + " 0 0\n", 0, api.ErrShape},
	} {
		wantPlan(t, l, x.s, nil, x.index, x.e)
	}
	wantPlan(t, nil, "aim s none\n", nil, 0, api.ErrShape)
	wantPlan(t, spots(spotS()), "aim s none\naim s none\n", nil, 1, api.ErrShape)
}

func TestParseUpToTheLimit(t *testing.T) {
	l := spots(spotS(), spotT())
	long := "aim s 0 0\naim " + strings.Repeat("x", 4096-len("aim s 0 0\naim  none\n")) + " none\n"
	if len(long) != 4096 {
		t.Fatalf("the long text has %d bytes", len(long))
	}
	wantPlan(t, l, long, nil, 1, api.ErrShape)
	wantPlan(t, l, long+"\n", nil, 0, api.ErrLong)
	wantPlan(t, l, strings.Repeat("x", 4096), nil, 0, api.ErrSyntax)
	wantPlan(t, l, strings.Repeat("x", 4097), nil, 0, api.ErrLong)
	wantPlan(t, l, "x\n"+strings.Repeat("x", 1000000), nil, 0, api.ErrLong)
	for _, x := range wrongLists() {
		wantPlan(t, x.x, long+"\n", nil, 0, x.e)
		wantPlan(t, x.x, "aim s 0 0\nx\n", nil, 0, x.e)
	}
}

// TestTheLongestText checks that the text of each plan can be parsed.
func TestTheLongestText(t *testing.T) {
	l := pixels(32, 1)
	for i := range l {
		l[i].Name = "abcdefghijklmnopqrstuv" + string([]byte{'a' + byte(i/8), 'a' + byte(i%8)})
		l[i].Aims = points(-100, -100)
	}
	text, e := aim.Print(l, flat(32, 0))
	expect.Err(t, "Print", e, api.OK)
	if lines := strings.Count(text, "\n"); len(text) != 32*39 || lines != 32 {
		t.Errorf("the text has %d lines and %d bytes", lines, len(text))
	}
	wantPlan(t, l, text, flat(32, 0), 0, api.OK)
	wantPlan(t, l, text+"aim x none\n", nil, 32, api.ErrShape)
	wantPlan(t, l, text+"x", nil, 32, api.ErrSyntax)
	wantPlan(t, l, text[:39*31], nil, 31, api.ErrShape)
}

// TestParseSharesNoMemory checks that one result does not change another one.
func TestParseSharesNoMemory(t *testing.T) {
	l := spots(spotS(), spotT())
	first, _, _ := aim.Parse(l, "aim s 0 0\naim t none\n")
	second, _, _ := aim.Parse(l, "aim s 0 0\naim t none\n")
	first[0] = 9
	if !slices.Equal(second, ints(0, aim.None)) {
		t.Errorf("Parse shares memory: %v", second)
	}
}
