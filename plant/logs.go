package plant

import (
	"slices"
	"strconv"
	"strings"

	"spillage/api"
	"spillage/common"
)

// The checksum of a record, and what stands before it.
const (
	checkFactor  = 353
	checkModulus = 9999649
	checkDigits  = 7
	checkMark    = "#"
)

// checksum returns the checksum of a string, with leading zeros.
func checksum(s string) string {
	x := 1
	for _, b := range []byte(s) {
		x = (checkFactor*x + int(b)) % checkModulus
	}
	var digits [checkDigits]byte
	for i := range checkDigits {
		digits[checkDigits-1-i] = byte('0' + x%10)
		x /= 10
	}
	return string(digits[:])
}

// recordOf returns the record of an event.
func recordOf(e api.Event) string {
	words := slices.Concat(
		[]string{strconv.Itoa(e.Number), e.Kind},
		e.Names,
		common.Mapped(e.Values, strconv.Itoa),
	)
	body := strings.Join(words, " ")
	return body + checkMark + checksum(body) + "\n"
}

// split returns the body and the checksum of a record without its line feed, or false if
// it does not end with one.
func split(record string) (body, check string, ok bool) {
	at := len(record) - len(checkMark) - checkDigits
	if at < 0 {
		return "", "", false
	}
	check, ok = strings.CutPrefix(record[at:], checkMark)
	for _, r := range check {
		ok = ok && common.IsDigit(r)
	}
	return record[:at], check, ok
}

func readName(word string) (string, bool) {
	return word, word != ""
}

func readNumber(word string) (int, bool) {
	return common.Natural(word, common.MaxDigits)
}

// readEvent returns the event of a kind with the names and the values that are all that
// is left of some words, or false if they are not as many, or a value is not an integer.
func (k kinds) readEvent(word string, take func() (string, bool)) (api.Event, bool) {
	form, isKnown := k[word]
	names, areNames := common.Taken(take, len(form.names), readName)
	values, areValues := common.Taken(take, form.values, readNumber)
	if _, isMore := take(); isMore || !isKnown || !areNames || !areValues {
		return api.Event{}, false
	}
	return api.Event{Kind: word, Names: names, Values: values}, true
}

// readBody returns the event with a body, or false if there is none that is right by
// itself.
func (k kinds) readBody(body string) (api.Event, bool) {
	left := common.WordsIn(body)
	word, _ := left.Next()
	number, isNumber := readNumber(word)
	word, _ = left.Next()
	e, isEvent := k.readEvent(word, left.Next)
	e.Number = number
	return e, isNumber && isEvent && k.check(e) == api.OK
}

// readRecord returns the event of a record with a number, or the error of what is none.
func (k kinds) readRecord(line string, number int) (api.Event, api.Errno) {
	record, isWhole := strings.CutSuffix(line, "\n")
	if !isWhole {
		return api.Event{}, api.ErrTorn
	}
	body, check, isSplit := split(record)
	e, isBody := k.readBody(body)
	return e, common.First(
		common.When(!isSplit, api.ErrSyntax),
		common.When(checksum(body) != check, api.ErrCheck),
		common.When(!isBody, api.ErrSyntax),
		common.When(e.Number != number, api.ErrOrder),
	)
}

// Recover returns the events of the longest prefix that is a log.
func Recover(log string) ([]api.Event, int, api.Errno) {
	k := allKinds()
	var l []api.Event
	length := 0
	_, bad := common.ReadLines(log, api.MaxLog, func(i int, line string) api.Errno {
		e, bad := k.readRecord(line, i+1)
		if bad == api.OK {
			l = append(l, e)
			length += len(line)
		}
		return bad
	})
	return l, length, bad
}

// Append returns a log with one more record.
func Append(log string, e api.Event) (string, api.Errno) {
	l, _, bad := Recover(log)
	longer := log + recordOf(e)
	bad = common.First(
		bad,
		CheckEvent(e),
		common.When(e.Number != len(l)+1, api.ErrOrder),
		common.When(len(longer) > api.MaxLog, api.ErrLong),
	)
	if bad != api.OK {
		return "", bad
	}
	return longer, api.OK
}
