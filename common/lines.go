package common

import (
	"strconv"
	"strings"

	"spillage/api"
)

// MaxDigits is how many digits an integer of a text has at most.
const MaxDigits = 9

// Line returns the line of a word and integers.
func Line(word string, numbers ...int) string {
	return strings.Join(append([]string{word}, Mapped(numbers, strconv.Itoa)...), " ") + "\n"
}

// Lines splits a text after each line feed.
func Lines(s string) []string {
	lines := strings.SplitAfter(s, "\n")
	if last := len(lines) - 1; lines[last] == "" {
		lines = lines[:last]
	}
	return lines
}

// Parsed returns the list of a text, of which each line tells an element, or the
// index of the first line that is wrong; the number of lines is the index of an
// error of the list.
func Parsed[T any](s string, read func(line string) (T, bool), check func([]T) api.Errno) ([]T, int, api.Errno) {
	return ParsedNumbered(s, func(_ int, line string) (T, api.Errno) {
		x, ok := read(line)
		return x, When(!ok, api.ErrSyntax)
	}, check)
}

// ParsedNumbered returns the same where what a line tells depends on its index,
// too, and a line can have other errors than that of its form.
func ParsedNumbered[T any](s string, read func(i int, line string) (T, api.Errno), check func([]T) api.Errno) ([]T, int, api.Errno) {
	var l []T
	index, e := ReadLines(s, api.MaxText, func(i int, line string) api.Errno {
		x, e := read(i, line)
		l = append(l, x)
		return e
	})
	if e == api.OK {
		e = check(l)
	}
	if e != api.OK {
		return nil, index, e
	}
	return l, 0, api.OK
}

// ReadLines reads the lines of a text of at most some bytes, one after the other;
// it returns the index of the first one with an error and this error, or how many
// lines there are.
func ReadLines(s string, most int, read func(i int, line string) api.Errno) (int, api.Errno) {
	if len(s) > most {
		return 0, api.ErrLong
	}
	lines := Lines(s)
	for i, line := range lines {
		if e := read(i, line); e != api.OK {
			return i, e
		}
	}
	return len(lines), api.OK
}

// Words are what is left of a line.
type Words struct {
	rest string
	more bool
}

// WordsIn returns all words of a string.
func WordsIn(s string) Words {
	return Words{rest: s, more: true}
}

// WordsOf returns the words of a line behind its first one, or false if the line
// has no line feed at its end, or another first word.
func WordsOf(line, first string) (Words, bool) {
	body, ended := strings.CutSuffix(line, "\n")
	left := WordsIn(body)
	if word, _ := left.Next(); !ended || word != first {
		return Words{}, false
	}
	return left, true
}

// Next takes the word before the next space; it may be empty.
func (w *Words) Next() (string, bool) {
	if !w.more {
		return "", false
	}
	word, rest, more := strings.Cut(w.rest, " ")
	w.rest, w.more = rest, more
	return word, true
}

// Only reports whether a word is all that is left; it takes nothing.
func (w *Words) Only(word string) bool {
	return w.more && w.rest == word
}

// NumbersOf returns the numbers behind the first word of a line, or false if the
// line has no line feed at its end, another first word, or not so many numbers.
func NumbersOf(line, first string, count int, read func(word string) (int, bool)) ([]int, bool) {
	left, ok := WordsOf(line, first)
	if !ok {
		return nil, false
	}
	numbers, ok := readWords(left.Next, read)
	if !ok || len(numbers) != count {
		return nil, false
	}
	return numbers, true
}

// Number is an integer of what a line tells.
type Number[T any] struct {
	Of func(x *T) *int
}

// LineOf returns the line of a word and some integers of x.
func LineOf[T any](word string, x T, numbers []Number[T]) string {
	return Line(word, Mapped(numbers, func(n Number[T]) int { return *n.Of(&x) })...)
}

// ReadLine returns what has the integers behind the first word of a line, or false
// if the line does not have its form.
func ReadLine[T any](line, first string, numbers []Number[T]) (T, bool) {
	var x T
	l, ok := NumbersOf(line, first, len(numbers), Integer)
	for i, n := range l {
		*numbers[i].Of(&x) = n
	}
	return x, ok
}

// Taken returns what is read of the next words, which are so many, or false if one of
// them cannot be read; where no word is left, the empty one is read.
func Taken[T any](take func() (string, bool), count int, read func(word string) (T, bool)) ([]T, bool) {
	var l []T
	for range count {
		word, _ := take()
		x, ok := read(word)
		if !ok {
			return nil, false
		}
		l = append(l, x)
	}
	return l, true
}

// Integers returns the words that are left as integers, or false if one is
// none.
func Integers(take func() (string, bool)) ([]int, bool) {
	return readWords(take, Integer)
}

// readWords returns the numbers that are read from the words that are left, or
// false if one cannot be read.
func readWords(take func() (string, bool), read func(word string) (int, bool)) ([]int, bool) {
	var numbers []int
	for {
		word, more := take()
		if !more {
			return numbers, true
		}
		n, ok := read(word)
		if !ok {
			return nil, false
		}
		numbers = append(numbers, n)
	}
}

// Integer returns the integer that a word tells in its one form.
func Integer(word string) (int, bool) {
	digits, isBelow := strings.CutPrefix(word, "-")
	n, ok := Natural(digits, MaxDigits)
	if !ok || isBelow && n == 0 {
		return 0, false
	}
	if isBelow {
		return -n, true
	}
	return n, true
}

// Natural returns the integer that a word of at most so many digits alone tells in
// its one form.
func Natural(word string, most int) (int, bool) {
	if len(word) == 0 || len(word) > most {
		return 0, false
	}
	if word[0] == '0' && word != "0" {
		return 0, false
	}
	for _, r := range word {
		if !IsDigit(r) {
			return 0, false
		}
	}
	n, err := strconv.Atoi(word)
	if err != nil {
		return 0, false
	}
	return n, true
}

// IsDigit reports whether a rune is a decimal digit of ASCII.
func IsDigit(r rune) bool {
	return '0' <= r && r <= '9'
}
