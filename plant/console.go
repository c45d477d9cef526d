package plant

import (
	"strconv"
	"strings"

	"spillage/api"
	"spillage/common"
)

// Session is a console.
type Session struct {
	history
}

// New returns a session without events.
func New() *Session {
	return &Session{}
}

// Open returns the session with a log; what is torn at its end is left out.
func Open(log string) (*Session, api.Errno) {
	l, _, bad := Recover(log)
	if bad != api.OK && bad != api.ErrTorn {
		return nil, bad
	}
	h, _, bad := allKinds().replayed(l)
	if bad != api.OK {
		return nil, bad
	}
	return &Session{history: h}, api.OK
}

// question is what the words behind the first one of a line stand for, and what is
// answered.
type question struct {
	names  nouns
	answer func(r Register, names []string) []string
}

func questions() map[string]question {
	return map[string]question{
		"state":  ofAll(Register.stateWords),
		"rate":   ofAll(func(r Register) []string { return digits(r.rate()) }),
		"aimed":  ofAll(Register.aimedNames),
		"books":  ofAll(func(r Register) []string { return digits(r.Light, r.Heat, r.Money) }),
		"offers": ofAll(Register.openWords),
		"dirt":   ofOne(mirrorNoun(), func(r Register, name string) []string { return digits(r.mirror(name).Soil) }),
		"count": ofOne(sectorNoun(), func(r Register, name string) []string {
			count := r.count(name)
			return digits(count[:]...)
		}),
	}
}

// ofAll returns a question of one word.
func ofAll(answer func(r Register) []string) question {
	return question{answer: func(r Register, _ []string) []string { return answer(r) }}
}

// ofOne returns a question about what a name stands for.
func ofOne(n noun, answer func(r Register, name string) []string) question {
	return question{
		names:  nouns{n},
		answer: func(r Register, names []string) []string { return answer(r, names[0]) },
	}
}

func digits(numbers ...int) []string {
	return common.Mapped(numbers, strconv.Itoa)
}

func (r Register) stateWords() []string {
	words := []string{"empty", "ready", strconv.Itoa(r.Level)}
	if r.Filled {
		words[0] = "filled"
	}
	if r.Tripped {
		words[1] = "tripped"
	}
	return words
}

// openWords returns the name and the shortfall of each offer that has not been billed.
func (r Register) openWords() []string {
	var words []string
	for o := range those(r.Offers, Offer.isOpen) {
		words = append(words, o.Name, strconv.Itoa(o.shortfall()))
	}
	return words
}

// Do executes a line, and returns its result.
func (s *Session) Do(line string) (string, api.Errno) {
	if s == nil {
		return "", api.ErrState
	}
	bad := common.First(
		common.When(len(line) > api.MaxText, api.ErrLong),
		common.When(line == "", api.ErrSyntax),
	)
	if bad != api.OK {
		return "", bad
	}
	left := common.WordsIn(line)
	word, _ := left.Next()
	k := allKinds()
	if _, isKind := k[word]; isKind {
		return s.add(k, word, left.Next)
	}
	if q, isQuestion := questions()[word]; isQuestion {
		return s.ask(q, left.Next)
	}
	return "", api.ErrKind
}

// add adds the event of a kind with the words that are left.
func (s *Session) add(k kinds, word string, take func() (string, bool)) (string, api.Errno) {
	e, isEvent := k.readEvent(word, take)
	e.Number = len(s.events) + 1
	bad := common.First(
		common.When(!isEvent, api.ErrSyntax),
		common.When(e.Number > api.MaxEvents, api.ErrMany),
	)
	if bad != api.OK {
		return "", bad
	}
	next, bad := k.after(s.clipped(), e)
	if bad != api.OK {
		return "", bad
	}
	s.history = next
	return "done " + strconv.Itoa(e.Number), api.OK
}

// ask answers a question with the words that are left.
func (s *Session) ask(q question, take func() (string, bool)) (string, api.Errno) {
	names, areNames := common.Taken(take, len(q.names), readName)
	if _, isMore := take(); isMore || !areNames {
		return "", api.ErrSyntax
	}
	r := s.register()
	if bad := q.names.check(r, names); bad != api.OK {
		return "", bad
	}
	words := q.answer(r, names)
	if len(words) == 0 {
		return "none", api.OK
	}
	return strings.Join(words, " "), api.OK
}

// Events returns the events.
func (s *Session) Events() []api.Event {
	if s == nil {
		return nil
	}
	return common.Mapped(s.events, copied)
}

// Log returns the log of the events.
func (s *Session) Log() string {
	if s == nil {
		return ""
	}
	return strings.Join(common.Mapped(s.events, recordOf), "")
}
