package common_test

import (
	"slices"
	"strings"
	"testing"

	"spillage/api"
	"spillage/common"
)

func TestLine(t *testing.T) {
	if s := common.Line("row", 3, -4, 0); s != "row 3 -4 0\n" {
		t.Errorf("Line: %q", s)
	}
	if s := common.Line("row"); s != "row\n" {
		t.Errorf("Line without integers: %q", s)
	}
}

func TestLines(t *testing.T) {
	for _, x := range []struct {
		s string
		l []string
	}{{"", nil}, {"\n", []string{"\n"}}, {"a", []string{"a"}}, {"a\nb\n", []string{"a\n", "b\n"}}, {"a\n\nb", []string{"a\n", "\n", "b"}}} {
		if l := common.Lines(x.s); !slices.Equal(l, x.l) {
			t.Errorf("Lines %q: %q, want %q", x.s, l, x.l)
		}
	}
}

// taken returns all words of a line behind its first one.
func taken(t *testing.T, line, first string) []string {
	t.Helper()
	left, ok := common.WordsOf(line, first)
	if !ok {
		t.Fatalf("WordsOf %q: no words", line)
	}
	var l []string
	for word, more := left.Next(); more; word, more = left.Next() {
		l = append(l, word)
	}
	if word, more := left.Next(); word != "" || more {
		t.Errorf("Next behind the end: %q", word)
	}
	return l
}

func TestWords(t *testing.T) {
	for _, x := range []struct {
		line, first string
		l           []string
	}{{"a\n", "a", nil}, {"a \n", "a", []string{""}}, {"row a b  c\n", "row", []string{"a", "b", "", "c"}}, {" a \n", "", []string{"a", ""}}, {"\n", "", nil}, {"a a\tb\n", "a", []string{"a\tb"}}} {
		if l := taken(t, x.line, x.first); !slices.Equal(l, x.l) {
			t.Errorf("the words of %q: %q, want %q", x.line, l, x.l)
		}
	}
	for _, line := range []string{"", "a", "a b", "a\nb", "\n", " a b\n", "b a\n", "aa b\n", "A b\n", "a\tb\n", "a\r\n"} {
		if left, ok := common.WordsOf(line, "a"); ok || left != (common.Words{}) {
			t.Errorf("WordsOf %q: words without a line feed at the end, or behind another word", line)
		}
	}
}

func TestIntegers(t *testing.T) {
	left, _ := common.WordsOf("row 3 -4 0 999999999\n", "row")
	if l, ok := common.Integers(left.Next); !ok || !slices.Equal(l, []int{3, -4, 0, 999999999}) {
		t.Errorf("Integers: %v %v", l, ok)
	}
	for _, word := range []string{"", "-", "-0", "00", "01", "-01", "+1", "1.0", "1234567890", "-1234567890", "x", "1x", "\u0661", "--1", " 1", "1\r"} {
		if n, ok := common.Integer(word); ok || n != 0 {
			t.Errorf("Integer %q: %d", word, n)
		}
		left, _ := common.WordsOf("row 1 "+word+"\n", "row")
		if l, ok := common.Integers(left.Next); ok || len(l) != 0 {
			t.Errorf("Integers of %q: %v", word, l)
		}
	}
}

func TestParsed(t *testing.T) {
	read := func(line string) (int, bool) { return common.Integer(strings.TrimSuffix(line, "\n")) }
	check := func(l []int) api.Errno { return common.CheckLength(len(l), 3) }
	long := strings.Repeat("\n", api.MaxText)
	for _, x := range []struct {
		s     string
		l     []int
		index int
		e     api.Errno
	}{
		{"4\n-2\n4\n", []int{4, -2, 4}, 0, api.OK}, {"4", []int{4}, 0, api.OK}, {"", nil, 0, api.ErrEmpty}, {"1\n2\n3\n4\n", nil, 4, api.ErrMany}, {"1\n2\n3\n4\nx\ny\n", nil, 4, api.ErrSyntax}, {"x\n", nil, 0, api.ErrSyntax}, {long, nil, 0, api.ErrSyntax}, {long + "\n", nil, 0, api.ErrLong},
	} {
		l, index, e := common.Parsed(x.s, read, check)
		if !slices.Equal(l, x.l) || index != x.index || e != x.e {
			t.Errorf("Parsed %.20q: %v, line %d, error %d, want %v, line %d, error %d", x.s, l, index, e, x.l, x.index, x.e)
		}
	}
}
