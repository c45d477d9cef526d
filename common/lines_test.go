package common_test

import (
	"slices"
	"testing"

	"spillage/common"
)

func TestLine(t *testing.T) {
	if s := common.Line("row", 3, -4, 0); s != "row 3 -4 0\n" {
		t.Errorf("Line: %q", s)
	}
	if s := common.Line("row"); s != "row\n" {
		t.Errorf("Line without integers: %q", s)
	}
}

func TestLines(t *testing.T) {
	for _, x := range []struct {
		s string
		l []string
	}{{"", nil}, {"\n", []string{"\n"}}, {"a", []string{"a"}}, {"a\nb\n", []string{"a\n", "b\n"}}, {"a\n\nb", []string{"a\n", "\n", "b"}}} {
		if l := common.Lines(x.s); !slices.Equal(l, x.l) {
			t.Errorf("Lines %q: %q, want %q", x.s, l, x.l)
		}
	}
}

// taken returns all words of a line.
func taken(t *testing.T, line string) []string {
	t.Helper()
	left, ok := common.WordsOf(line)
	if !ok {
		t.Fatalf("WordsOf %q: no words", line)
	}
	var l []string
	for word, more := left.Next(); more; word, more = left.Next() {
		l = append(l, word)
	}
	if word, more := left.Next(); word != "" || more {
		t.Errorf("Next behind the end: %q", word)
	}
	return l
}

func TestWords(t *testing.T) {
	for _, x := range []struct {
		line string
		l    []string
	}{{"\n", []string{""}}, {"a\n", []string{"a"}}, {"a b  c\n", []string{"a", "b", "", "c"}}, {" a \n", []string{"", "a", ""}}, {"a\tb\n", []string{"a\tb"}}} {
		if l := taken(t, x.line); !slices.Equal(l, x.l) {
			t.Errorf("the words of %q: %q, want %q", x.line, l, x.l)
		}
	}
	for _, line := range []string{"", "a", "a b", "a\nb"} {
		if _, ok := common.WordsOf(line); ok {
			t.Errorf("WordsOf %q: words without a line feed at the end", line)
		}
	}
}

func TestIntegers(t *testing.T) {
	left, _ := common.WordsOf("3 -4 0 999999999\n")
	if l, ok := common.Integers(left.Next); !ok || !slices.Equal(l, []int{3, -4, 0, 999999999}) {
		t.Errorf("Integers: %v %v", l, ok)
	}
	for _, word := range []string{"", "-", "-0", "00", "01", "-01", "+1", "1.0", "1234567890", "-1234567890", "x", "1x", "\u0661", "--1", " 1", "1\r"} {
		if n, ok := common.Integer(word); ok || n != 0 {
			t.Errorf("Integer %q: %d", word, n)
		}
		left, _ := common.WordsOf("1 " + word + "\n")
		if l, ok := common.Integers(left.Next); ok || len(l) != 0 {
			t.Errorf("Integers of %q: %v", word, l)
		}
	}
}
