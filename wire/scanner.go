package wire

import (
	"math"
	"strconv"
	"strings"

	"copse/api"
)

// scanner goes through the bytes of an answer. Each of its methods tells ErrText at the first byte that can't stand where it stands and ErrShort where the bytes end: up to there they could still go on rightly.
type scanner struct {
	data string
	at   int
}

// answer reads an answer around which so many lists lie.
func (s *scanner) answer(around int) (api.Answer, error) {
	sign, err := s.next()
	if err != nil {
		return api.Answer{}, err
	}
	switch {
	case sign == '+':
		return s.line(api.WireStatus)
	case sign == '-':
		return s.line(api.WireError)
	case sign == ':':
		n, err := s.number(math.MinInt, math.MaxInt)
		return api.Answer{Kind: api.WireNum, Num: n}, err
	case sign == '$':
		return s.bulk()
	case sign == '*' && around < api.MaxNesting:
		return s.list(around)
	}
	return api.Answer{}, api.ErrText
}

// next is the next byte.
func (s *scanner) next() (byte, error) {
	if s.at == len(s.data) {
		return 0, api.ErrShort
	}
	s.at++
	return s.data[s.at-1], nil
}

// expect goes through bytes that must stand there.
func (s *scanner) expect(text string) error {
	for i := range len(text) {
		b, err := s.next()
		if err != nil {
			return err
		}
		if b != text[i] {
			return api.ErrText
		}
	}
	return nil
}

// until reads up to CR and LF: what stands ahead of the CR must be a text that may stand there, begun, byte by byte, and ended.
func (s *scanner) until(may func(text string, ended bool) bool) (string, error) {
	from := s.at
	for {
		b, err := s.next()
		if err != nil {
			return "", err
		}
		if b == cr {
			break
		}
		if !may(s.data[from:s.at], false) {
			return "", api.ErrText
		}
	}
	text := s.data[from : s.at-1]
	if !may(text, true) {
		return "", api.ErrText
	}
	return text, s.expect(crlf[1:])
}

// line reads the text of a status or an error.
func (s *scanner) line(kind int) (api.Answer, error) {
	text, err := s.until(func(text string, ended bool) bool {
		return ended || len(text) <= api.MaxLine && printed(text[len(text)-1])
	})
	return api.Answer{Kind: kind, Text: strings.Clone(text)}, err
}

// number reads a number within bounds, written as Encode writes it.
func (s *scanner) number(low, high int) (int, error) {
	text, err := s.until(func(text string, ended bool) bool {
		return within(text, low, high) || text == "-" && low < 0 && !ended
	})
	if err != nil {
		return 0, err
	}
	return strconv.Atoi(text)
}

// within tells whether a text is a number within bounds, without a needless sign or nought.
func within(text string, low, high int) bool {
	n, err := strconv.Atoi(text)
	return err == nil && strconv.Itoa(n) == text && low <= n && n <= high
}

// bulk reads a bulk, or that there is none.
func (s *scanner) bulk() (api.Answer, error) {
	n, err := s.number(-1, api.MaxText)
	if err != nil {
		return api.Answer{}, err
	}
	if n < 0 {
		return api.Answer{Kind: api.WireNone}, nil
	}
	if len(s.data)-s.at < n {
		return api.Answer{}, api.ErrShort
	}
	text := strings.Clone(s.data[s.at : s.at+n])
	s.at += n
	return api.Answer{Kind: api.WireBulk, Text: text}, s.expect(crlf)
}

// list reads a list around which so many others lie.
func (s *scanner) list(around int) (api.Answer, error) {
	n, err := s.number(0, maxElements)
	if err != nil {
		return api.Answer{}, err
	}
	var list []api.Answer
	for range n {
		element, err := s.answer(around + 1)
		if err != nil {
			return api.Answer{}, err
		}
		list = append(list, element)
	}
	return api.Answer{Kind: api.WireList, List: list}, nil
}
