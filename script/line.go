package script

import (
	"errors"
	"strconv"
	"strings"

	"ingot/api"
)

var (
	errVerb   = errors.New("a verb that is none")
	errNumber = errors.New("a number that is none")
	errCount  = errors.New("too few numbers, or something behind them")
	errText   = errors.New("a text that is no escape")
)

// wrongLine is a line that is none, and why.
type wrongLine struct {
	number int
	why    error
}

func (w wrongLine) Error() string { return "line " + strconv.Itoa(w.number) + ": " + w.why.Error() }

func (w wrongLine) Unwrap() error { return w.why }

// readLines reads the steps of all lines; its error is a wrongLine.
func readLines(text string) ([]Step, error) {
	known := verbs()
	var out []Step
	for i, line := range strings.Split(text, lineEnd) {
		if line == "" || strings.HasPrefix(line, remark) {
			continue
		}
		s, err := readStep(known, line)
		if err != nil {
			return nil, wrongLine{i, err}
		}
		out = append(out, s)
	}
	return out, nil
}

func readStep(known map[string]verb, line string) (Step, error) {
	name, rest, more := strings.Cut(line, blank)
	v, is := known[name]
	if !is {
		return Step{}, errVerb
	}
	s := Step{Verb: name}
	for more && len(s.N) < v.most {
		var word string
		word, rest, more = strings.Cut(rest, blank)
		n, is := readNumber(word)
		if !is {
			return Step{}, errNumber
		}
		s.N = append(s.N, n)
	}
	if len(s.N) < v.least || more != v.hasText {
		return Step{}, errCount
	}
	var isEscape bool
	if s.Text, isEscape = unescape(rest); !isEscape {
		return Step{}, errText
	}
	return s, nil
}

// readNumber reads a number as it is written: in one way.
func readNumber(word string) (int, bool) {
	n, err := strconv.Atoi(word)
	if err != nil || n < 0 || n > api.MaxTime || strconv.Itoa(n) != word {
		return 0, false
	}
	return n, true
}
