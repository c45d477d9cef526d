package common_test

import (
	"slices"
	"strings"
	"testing"

	"spillage/api"
	"spillage/common"
	"spillage/expect"
)

func TestLine(t *testing.T) {
	if s := common.Line("row", 3, -4, 0); s != "row 3 -4 0\n" {
		t.Errorf("Line: %q", s)
	}
	if s := common.Line("row"); s != "row\n" {
		t.Errorf("Line without integers: %q", s)
	}
}

func TestLines(t *testing.T) {
	for _, x := range []struct {
		s string
		l []string
	}{{"", nil}, {"\n", []string{"\n"}}, {"a", []string{"a"}}, {"a\nb\n", []string{"a\n", "b\n"}}, {"a\n\nb", []string{"a\n", "\n", "b"}}} {
		if l := common.Lines(x.s); !slices.Equal(l, x.l) {
			t.Errorf("Lines %q: %q, want %q", x.s, l, x.l)
		}
	}
}

// taken returns all words of a line behind its first one.
func taken(t *testing.T, line, first string) []string {
	t.Helper()
	left, ok := common.WordsOf(line, first)
	if !ok {
		t.Fatalf("WordsOf %q: no words", line)
	}
	var l []string
	for word, more := left.Next(); more; word, more = left.Next() {
		l = append(l, word)
	}
	if word, more := left.Next(); word != "" || more {
		t.Errorf("Next behind the end: %q", word)
	}
	return l
}

func TestWords(t *testing.T) {
	for _, x := range []struct {
		line, first string
		l           []string
	}{{"a\n", "a", nil}, {"a \n", "a", []string{""}}, {"row a b  c\n", "row", []string{"a", "b", "", "c"}}, {" a \n", "", []string{"a", ""}}, {"\n", "", nil}, {"a a\tb\n", "a", []string{"a\tb"}}} {
		if l := taken(t, x.line, x.first); !slices.Equal(l, x.l) {
			t.Errorf("the words of %q: %q, want %q", x.line, l, x.l)
		}
	}
	for _, line := range []string{"", "a", "a b", "a\nb", "\n", " a b\n", "b a\n", "aa b\n", "A b\n", "a\tb\n", "a\r\n"} {
		if left, ok := common.WordsOf(line, "a"); ok || left != (common.Words{}) {
			t.Errorf("WordsOf %q: words without a line feed at the end, or behind another word", line)
		}
	}
}

func TestOnly(t *testing.T) {
	for _, x := range []struct {
		line string
		only bool
	}{{"a none\n", true}, {"a\n", false}, {"a \n", false}, {"a none \n", false}, {"a  none\n", false}, {"a none none\n", false}, {"a nones\n", false}, {"a b none\n", false}, {"a None\n", false}} {
		left, _ := common.WordsOf(x.line, "a")
		if left.Only("none") != x.only {
			t.Errorf("Only of %q: %v", x.line, !x.only)
		}
	}
	left, _ := common.WordsOf("a b \n", "a")
	for _, wanted := range []string{"b", ""} {
		before := left.Only("")
		if word, more := left.Next(); word != wanted || !more || before != (wanted == "") {
			t.Errorf("the word %q behind Only, which is %v", word, before)
		}
	}
	if left.Only("") {
		t.Error("Only of no word is true")
	}
}

func TestWordsIn(t *testing.T) {
	for _, x := range []struct {
		s string
		l []string
	}{{"", []string{""}}, {"a", []string{"a"}}, {"a b", []string{"a", "b"}}, {" a  b ", []string{"", "a", "", "b", ""}}, {"a\n b\n", []string{"a\n", "b\n"}}} {
		left := common.WordsIn(x.s)
		for _, wanted := range x.l {
			if word, more := left.Next(); word != wanted || !more {
				t.Errorf("a word of %q: %q %v, want %q", x.s, word, more, wanted)
			}
		}
		if word, more := left.Next(); word != "" || more {
			t.Errorf("behind the words of %q: %q", x.s, word)
		}
	}
}

func TestTaken(t *testing.T) {
	for _, x := range []struct {
		s     string
		count int
		l     []int
		ok    bool
		next  string
	}{
		{"4 -2 0 9", 3, []int{4, -2, 0}, true, "9"}, {"4 -2", 2, []int{4, -2}, true, ""}, {"4 x", 1, []int{4}, true, "x"}, {"4 x", 0, nil, true, "4"}, {"", 0, nil, true, ""}, {"4 x 5", 2, nil, false, "5"}, {"4", 2, nil, false, ""}, {"4 ", 2, nil, false, ""}, {"", 1, nil, false, ""},
	} {
		left := common.WordsIn(x.s)
		l, ok := common.Taken(left.Next, x.count, common.Integer)
		if !slices.Equal(l, x.l) || ok != x.ok {
			t.Errorf("Taken %d of %q: %v %v", x.count, x.s, l, ok)
		}
		if word, _ := left.Next(); word != x.next {
			t.Errorf("behind %d of %q: %q, want %q", x.count, x.s, word, x.next)
		}
	}
}

func TestIntegers(t *testing.T) {
	left, _ := common.WordsOf("row 3 -4 0 999999999\n", "row")
	if l, ok := common.Integers(left.Next); !ok || !slices.Equal(l, []int{3, -4, 0, 999999999}) {
		t.Errorf("Integers: %v %v", l, ok)
	}
	for _, word := range []string{"", "-", "-0", "00", "01", "-01", "+1", "1.0", "1234567890", "-1234567890", "x", "1x", "\u0661", "--1", " 1", "1\r"} {
		if n, ok := common.Integer(word); ok || n != 0 {
			t.Errorf("Integer %q: %d", word, n)
		}
		left, _ := common.WordsOf("row 1 "+word+"\n", "row")
		if l, ok := common.Integers(left.Next); ok || len(l) != 0 {
			t.Errorf("Integers of %q: %v", word, l)
		}
	}
}

func TestNatural(t *testing.T) {
	for _, x := range []struct {
		word    string
		most, n int
	}{{"0", 1, 0}, {"7", 1, 7}, {"10", 2, 10}, {"999999999", 9, 999999999}, {"1000000000", 10, 1000000000}, {"9999999999", 10, 9999999999}, {"9223372036854775807", 19, 9223372036854775807}} {
		if n, ok := common.Natural(x.word, x.most); !ok || n != x.n {
			t.Errorf("Natural %q: %d %v", x.word, n, ok)
		}
	}
	for _, word := range []string{"", "-", "-1", "-0", "00", "01", "0000000001", "+1", "1.0", "12345678901", "00000000000", "x", "1x", "\u0661", " 1", "1\r", "9223372036854775807"} {
		if n, ok := common.Natural(word, 10); ok || n != 0 {
			t.Errorf("Natural %q: %d", word, n)
		}
	}
	if n, ok := common.Natural("9223372036854775808", 19); ok || n != 0 {
		t.Errorf("Natural of too large a number: %d", n)
	}
}

func TestNumbersOf(t *testing.T) {
	for _, x := range []struct {
		line  string
		count int
		l     []int
	}{{"row 3 -4 0\n", 3, []int{3, -4, 0}}, {"row 7\n", 1, []int{7}}, {"row\n", 0, nil}} {
		if l, ok := common.NumbersOf(x.line, "row", x.count, common.Integer); !ok || !slices.Equal(l, x.l) {
			t.Errorf("NumbersOf %q: %v %v", x.line, l, ok)
		}
	}
	for _, line := range []string{"", "row", "row 3 4", "row 3\n", "row 3 4 5\n", "rows 3 4\n", "3 4\n", "row 3 x\n", "row 3  4\n", "row 3 4 \n", " row 3 4\n", "row 3 4\n\n"} {
		if l, ok := common.NumbersOf(line, "row", 2, common.Integer); ok || l != nil {
			t.Errorf("NumbersOf %q: %v", line, l)
		}
	}
	isLetter := func(word string) (int, bool) { return len(word), word != "b" }
	if l, ok := common.NumbersOf("row a aa\n", "row", 2, isLetter); !ok || !slices.Equal(l, []int{1, 2}) {
		t.Errorf("NumbersOf by another reader: %v %v", l, ok)
	}
	if l, ok := common.NumbersOf("row a b\n", "row", 2, isLetter); ok || l != nil {
		t.Errorf("NumbersOf of what another reader refuses: %v", l)
	}
}

func TestLinesOfNumbers(t *testing.T) {
	numbers := []common.Number[api.Span]{
		{Of: func(x *api.Span) *int { return &x.To }},
		{Of: func(x *api.Span) *int { return &x.From }},
	}
	for _, x := range []struct {
		x    api.Span
		line string
	}{{api.Span{From: 3, To: -4}, "span -4 3\n"}, {api.Span{}, "span 0 0\n"}, {api.Span{From: 999999999}, "span 0 999999999\n"}} {
		if line := common.LineOf("span", x.x, numbers); line != x.line {
			t.Errorf("LineOf %v: %q, want %q", x.x, line, x.line)
		}
		if got, ok := common.ReadLine(x.line, "span", numbers); !ok || got != x.x {
			t.Errorf("ReadLine %q: %v %v, want %v", x.line, got, ok, x.x)
		}
	}
	for _, line := range []string{"", "span 1 2", "span 1\n", "span 1 2 3\n", "spans 1 2\n", "span 1 x\n", "span 1 -0\n", "span 1 2 \n", "span 1 1234567890\n"} {
		if got, ok := common.ReadLine(line, "span", numbers); ok || got != (api.Span{}) {
			t.Errorf("ReadLine %q: %v", line, got)
		}
	}
	if line := common.LineOf("span", api.Span{From: 1}, nil); line != "span\n" {
		t.Errorf("LineOf no numbers: %q", line)
	}
}

func TestParsed(t *testing.T) {
	read := func(line string) (int, bool) { return common.Integer(strings.TrimSuffix(line, "\n")) }
	check := func(l []int) api.Errno { return common.CheckLength(len(l), 3) }
	long := strings.Repeat("\n", api.MaxText)
	for _, x := range []struct {
		s     string
		l     []int
		index int
		e     api.Errno
	}{
		{"4\n-2\n4\n", []int{4, -2, 4}, 0, api.OK}, {"4", []int{4}, 0, api.OK}, {"", nil, 0, api.ErrEmpty}, {"1\n2\n3\n4\n", nil, 4, api.ErrMany}, {"1\n2\n3\n4\nx\ny\n", nil, 4, api.ErrSyntax}, {"x\n", nil, 0, api.ErrSyntax}, {long, nil, 0, api.ErrSyntax}, {long + "\n", nil, 0, api.ErrLong},
	} {
		parse := func(s string) ([]int, int, api.Errno) { return common.Parsed(s, read, check) }
		expect.Parsed(t, parse, x.s, x.l, x.index, x.e)
	}
}

func TestParsedNumbered(t *testing.T) {
	read := func(i int, line string) (int, api.Errno) {
		n, ok := common.Integer(strings.TrimSuffix(line, "\n"))
		return 10*i + n, common.First(common.When(!ok, api.ErrSyntax), common.When(n < i, api.ErrShape))
	}
	check := func(l []int) api.Errno { return common.CheckLength(len(l), 3) }
	long := strings.Repeat("\n", api.MaxText)
	for _, x := range []struct {
		s     string
		l     []int
		index int
		e     api.Errno
	}{
		{"4\n1\n7\n", []int{4, 11, 27}, 0, api.OK}, {"4\n1", []int{4, 11}, 0, api.OK}, {"", nil, 0, api.ErrEmpty}, {"3\n3\n3\n3\n", nil, 4, api.ErrMany}, {"1\n0\nx\n", nil, 1, api.ErrShape}, {"1\nx\n0\n", nil, 1, api.ErrSyntax}, {"-1\n", nil, 0, api.ErrShape}, {"3\n3\n3\n3\nx\n", nil, 4, api.ErrSyntax}, {long, nil, 0, api.ErrSyntax}, {long + "\n", nil, 0, api.ErrLong},
	} {
		parse := func(s string) ([]int, int, api.Errno) { return common.ParsedNumbered(s, read, check) }
		expect.Parsed(t, parse, x.s, x.l, x.index, x.e)
	}
}

func TestReadLines(t *testing.T) {
	for _, x := range []struct {
		s     string
		lines []string
		index int
		e     api.Errno
	}{
		{"", nil, 0, api.OK}, {"a\n", []string{"a\n"}, 1, api.OK}, {"a\nb", []string{"a\n", "b"}, 2, api.OK}, {"x\na\n", []string{"x\n"}, 0, api.ErrShape}, {"a\nx\nx\n", []string{"a\n", "x\n"}, 1, api.ErrShape}, {"a\nb\nc\nd\n", []string{"a\n", "b\n", "c\n", "d\n"}, 4, api.OK}, {"a\nb\nc\nd\n\n", nil, 0, api.ErrLong}, {"x\nb\nc\nd\n\n", nil, 0, api.ErrLong},
	} {
		var lines []string
		index, e := common.ReadLines(x.s, 8, func(i int, line string) api.Errno {
			if i != len(lines) {
				t.Errorf("ReadLines %q: the line %d has the index %d", x.s, len(lines), i)
			}
			lines = append(lines, line)
			return common.When(line == "x\n", api.ErrShape)
		})
		if !slices.Equal(lines, x.lines) || index != x.index || e != x.e {
			t.Errorf("ReadLines %q: %q, index %d, error %d", x.s, lines, index, e)
		}
	}
}
