package cloud_test

import (
	"math/rand"
	"strings"
	"testing"

	"spillage/api"
	"spillage/cloud"
	"spillage/expect"
)

// P7.5

func TestPrintAndParse(t *testing.T) {
	for _, x := range []struct {
		d cloud.Drift
		s string
	}{
		{drift(0, 2, -1, 1), "drift 10 0 2 -1 1\n"}, {during(1, to(0, 0), to(0, 0)), "drift 1 0 0 0 0\n"}, {during(1000, to(-1000, -992), to(992, 1000)), "drift 1000 -1000 -992 992 1000\n"}, {during(7, to(-12, -10), to(5, 5)), "drift 7 -12 -10 5 5\n"},
	} {
		s, e := cloud.Print(x.d)
		expect.Result(t, "Print", s, e, x.s, api.OK)
		d, e := cloud.Parse(x.s)
		expect.Result(t, "Parse", d, e, x.d, api.OK)
	}
}

// wrongLines are texts that are not the line of a drift.
func wrongLines() []string {
	l := []string{
		"", "\n", " ", "drift", "drift\n", "drift \n", "drift 10 0 2 -1 1", "drift 10 0 2 -1\n", "drift 10 0 2 -1 1 1\n", "drift 10 0 2 -1 1 \n", " drift 10 0 2 -1 1\n", "drift  10 0 2 -1 1\n", "drift 10 0  2 -1 1\n", "drift 10 0 2 -1 1\n\n", "\ndrift 10 0 2 -1 1\n", "drift 10 0 2 -1 1\r\n", "drift 10 0 2 -1 1\ndrift 10 0 2 -1 1\n", "drift 10 0 2\n-1 1\n", "drift\n10 0 2 -1 1\n", "drift 10 0 2 -1 1\n ", "drift 10 0 2 -1 1\nx",
		"Drift 10 0 2 -1 1\n", "drifts 10 0 2 -1 1\n", "rift 10 0 2 -1 1\n", "10 0 2 -1 1\n", "drift\t10 0 2 -1 1\n", "drift 10\t0 2 -1 1\n", "0 drift 10 0 2 -1 1\n", "drift 10 0 2 -1 1 drift\n", "\xff\n", "drift 10 0 2 -1 \xff\n",
	}
	for _, word := range []string{"-0", "00", "01", "-01", "+1", "1.0", "--1", "-", "x", "1x", "0x1", "1e1", "1_0", "1234567890", "-1234567890", "\u0661"} {
		for i := range 5 {
			words := strings.Split("10 0 2 -1 1", " ")
			words[i] = word
			l = append(l, "drift "+strings.Join(words, " ")+"\n")
		}
	}
	return append(l, strings.Repeat(" ", 4096), strings.Repeat("\n", 4096), "drift"+strings.Repeat(" 1", 2045)+"\n", strings.Repeat("x", 4095)+"\n")
}

func TestParseWithErrors(t *testing.T) {
	for _, s := range wrongLines() {
		d, e := cloud.Parse(s)
		expect.Result(t, "Parse "+s, d, e, cloud.Drift{}, api.ErrSyntax)
	}
	for _, s := range []string{strings.Repeat("x", 4097), strings.Repeat("\n", 4097), "drift 10 0 2 -1 1\n" + strings.Repeat(" ", 4096), strings.Repeat("\u00e4", 2049), strings.Repeat("x", 1000000)} {
		d, e := cloud.Parse(s)
		expect.Result(t, "Parse of a long text", d, e, cloud.Drift{}, api.ErrLong)
	}
	for _, x := range []struct {
		s string
		e api.Errno
	}{
		{"drift 0 0 2 -1 1\n", api.ErrRange}, {"drift 1001 0 2 -1 1\n", api.ErrRange}, {"drift -1 2 0 -1 1\n", api.ErrRange}, {"drift 999999999 0 0 0 0\n", api.ErrRange}, {"drift 10 -1001 2 -1 1\n", api.ErrRange}, {"drift 10 0 1001 -1 1\n", api.ErrRange}, {"drift 10 0 2 -1001 1\n", api.ErrRange}, {"drift 10 0 2 -1 1001\n", api.ErrRange}, {"drift 10 -999999999 999999999 0 0\n", api.ErrRange}, {"drift 10 2 0 1001 1\n", api.ErrOrder}, {"drift 10 0 2 1 -1\n", api.ErrOrder}, {"drift 10 0 9 1 -1\n", api.ErrMany}, {"drift 10 0 2 -5 4\n", api.ErrMany}, {"drift 0 0 9 1 -1\n", api.ErrRange},
	} {
		d, e := cloud.Parse(x.s)
		expect.Result(t, "Parse "+x.s, d, e, cloud.Drift{}, x.e)
	}
}

func TestTextsOfRandomDrifts(t *testing.T) {
	rnd := rand.New(rand.NewSource(16))
	for range 2000 {
		d := randomDrift(rnd, pick(rnd, 9, 1000), 9)
		s, e := cloud.Print(d)
		expect.Err(t, "Print", e, api.OK)
		again, e := cloud.Parse(s)
		expect.Result(t, "Parse of Print", again, e, d, api.OK)
	}
}
