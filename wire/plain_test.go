package wire_test

import (
	"fmt"
	"math/big"
	"regexp"
	"slices"
	"strings"
	"testing"

	"copse/api"
	"copse/wire"
)

// The chapter's words said plainly: what is read is looked at from its beginning whenever it is asked for, numbers by regular expressions.

const (
	crlf = "\r\n"
	long = api.MaxLine
	most = api.MaxText
)

var (
	numberLine  = regexp.MustCompile(`^(0|[1-9][0-9]{0,5})\r\n`)
	control     = regexp.MustCompile(`[\x00-\x1f\x7f]`)
	numberBegun = regexp.MustCompile(`^((0|[1-9][0-9]{0,5})\r?)?$`)
)

// part is what stands at the beginning of bytes: how many bytes it has, or its fault; neither: it is not whole.
type part struct {
	size  int
	fault error
}

func plainNumber(s string) (int, part) {
	m := numberLine.FindStringSubmatch(s)
	if m == nil {
		if numberBegun.MatchString(s) {
			return 0, part{}
		}
		return 0, part{fault: api.ErrText}
	}
	n := 0
	fmt.Sscan(m[1], &n)
	return n, part{size: len(m[0])}
}

func plainWord(s string) (string, part) {
	if s == "" {
		return "", part{}
	}
	if s[0] != '$' {
		return "", part{fault: api.ErrText}
	}
	n, p := plainNumber(s[1:])
	if p.size == 0 {
		return "", p
	}
	if n > 65536 {
		return "", part{fault: api.ErrMany}
	}
	rest := s[1+p.size:]
	if len(rest) <= n {
		return "", part{}
	}
	end := rest[n:min(n+2, len(rest))]
	if !strings.HasPrefix(crlf, end) {
		return "", part{fault: api.ErrText}
	}
	if end != crlf {
		return "", part{}
	}
	return rest[:n], part{size: 1 + p.size + n + 2}
}

func plainCommand(s string) ([]string, part) {
	n, p := plainNumber(s[1:])
	if p.size == 0 {
		return nil, p
	}
	if n == 0 {
		return nil, part{fault: api.ErrText}
	}
	if n > 16 {
		return nil, part{fault: api.ErrMany}
	}
	var words []string
	size := 1 + p.size
	for range n {
		word, p := plainWord(s[size:])
		if p.size == 0 {
			return nil, p
		}
		words, size = append(words, word), size+p.size
	}
	return words, part{size: size}
}

func plainLine(s string) ([]string, part) {
	may := func(b byte) bool { return b == 9 || 0x20 <= b && b <= 0x7e || b >= 0x80 }
	end := 0
	for end < len(s) && may(s[end]) {
		end++
	}
	switch {
	case end > 4096 || end == 4096 && end < len(s) && s[end] != '\r':
		return nil, part{fault: api.ErrMany}
	case !strings.HasPrefix(crlf, s[end:min(end+2, len(s))]):
		return nil, part{fault: api.ErrText}
	case len(s) < end+2:
		return nil, part{}
	}
	words := strings.Fields(latin(s[:end]))
	if len(words) > 16 {
		return nil, part{fault: api.ErrMany}
	}
	for i := range words {
		words[i] = bytesOf(words[i])
	}
	return words, part{size: end + 2}
}

// latin is a text with a letter for each byte, none of which the library takes for a blank (85 and A0 it would, as letters of their own); bytesOf is the way back.
func latin(s string) string {
	var l []rune
	for i := range len(s) {
		if s[i] >= 0x80 {
			l = append(l, 0x4e00+rune(s[i]))
		} else {
			l = append(l, rune(s[i]))
		}
	}
	return string(l)
}

func bytesOf(s string) string {
	var p []byte
	for _, r := range s {
		if r >= 0x4e00 {
			r -= 0x4e00
		}
		p = append(p, byte(r))
	}
	return string(p)
}

// plainReading is all commands that bytes begin with, and the fault behind them, if there is one.
func plainReading(s string) ([][]string, error) {
	var all [][]string
	for s != "" {
		words, p := []string(nil), part{}
		if s[0] == '*' {
			words, p = plainCommand(s)
		} else {
			words, p = plainLine(s)
		}
		if p.size == 0 {
			return all, p.fault
		}
		if len(words) > 0 {
			all = append(all, words)
		}
		s = s[p.size:]
	}
	return all, nil
}

// plainBytes is the bytes of an answer that may be.
func plainBytes(a api.Answer) string {
	switch a.Kind {
	case 1:
		return fmt.Sprintf("+%s\r\n", a.Text)
	case 2:
		return fmt.Sprintf("-%s\r\n", a.Text)
	case 3:
		return fmt.Sprintf(":%d\r\n", a.Num)
	case 4:
		return fmt.Sprintf("$%d\r\n%s\r\n", len(a.Text), a.Text)
	case 5:
		return "$-1\r\n"
	}
	var b strings.Builder
	fmt.Fprintf(&b, "*%d\r\n", len(a.List))
	for _, x := range a.List {
		b.WriteString(plainBytes(x))
	}
	return b.String()
}

// plainFaults are all faults of an answer around which d lists lie, as going through it finds them; it goes on behind each but into what no list may hold.
func plainFaults(a api.Answer, d int) []error {
	var faults []error
	find := func(is bool, err error) {
		if is {
			faults = append(faults, err)
		}
	}
	isLine, isList := a.Kind == 1 || a.Kind == 2, a.Kind == 6
	find(a.Kind < 1 || a.Kind > 6, api.ErrArg)
	find(a.Num != 0 && a.Kind != 3, api.ErrArg)
	find(a.Text != "" && !isLine && a.Kind != 4, api.ErrArg)
	find(len(a.List) != 0 && !isList, api.ErrArg)
	find(isLine && control.MatchString(a.Text), api.ErrArg)
	find(isLine && len(a.Text) > 4096, api.ErrMany)
	find(a.Kind == 4 && len(a.Text) > 65536, api.ErrMany)
	find(isList && (d >= 4 || len(a.List) > 2000), api.ErrMany)
	if isList && d < 4 {
		for _, x := range a.List {
			faults = append(faults, plainFaults(x, d+1)...)
		}
	}
	return faults
}

func plainFault(a api.Answer) error {
	if faults := plainFaults(a, 0); len(faults) > 0 {
		return faults[0]
	}
	return nil
}

var written = regexp.MustCompile(`^(0|-?[1-9][0-9]*)$`)

// plainDecode reads an answer around which d lists lie: its bytes' number, or ErrShort, or ErrText.
func plainDecode(s string, d int) (api.Answer, int, error) {
	none := api.Answer{}
	if s == "" {
		return none, 0, api.ErrShort
	}
	line := func(may func(string) bool, begun func(string) bool) (string, int, error) {
		text, end, _ := strings.Cut(s[1:], "\r")
		// whatever stands behind a text that may not stand there, the whole may not
		if !may(text) && !begun(text) {
			return "", 0, api.ErrText
		}
		if len(text) == len(s)-1 {
			return "", 0, api.ErrShort
		}
		if !may(text) || end != "" && end[0] != '\n' {
			return "", 0, api.ErrText
		}
		if end == "" {
			return "", 0, api.ErrShort
		}
		return text, len(text) + 3, nil
	}
	number := func(low, high int) (int, int, error) {
		text, n, err := line(func(s string) bool {
			v, ok := new(big.Int).SetString(s, 10)
			return ok && written.MatchString(s) && v.Cmp(big.NewInt(int64(low))) >= 0 && v.Cmp(big.NewInt(int64(high))) <= 0
		}, func(s string) bool { return s == "" || s == "-" && low < 0 })
		if err != nil {
			return 0, 0, err
		}
		v, _ := new(big.Int).SetString(text, 10)
		return int(v.Int64()), n, nil
	}
	words := func(s string) bool {
		return len(s) <= 4096 && !control.MatchString(s)
	}
	switch s[0] {
	case '+', '-':
		text, n, err := line(words, words)
		if err != nil {
			return none, 0, err
		}
		return api.Answer{Kind: 1 + strings.IndexByte("+-", s[0]), Text: text}, n, nil
	case ':':
		v, n, err := number(-1<<63, 1<<63-1)
		if err != nil {
			return none, 0, err
		}
		return api.Answer{Kind: 3, Num: v}, n, nil
	case '$':
		v, n, err := number(-1, 65536)
		if err != nil {
			return none, 0, err
		}
		if v == -1 {
			return api.Answer{Kind: 5}, n, nil
		}
		rest := s[n:]
		if len(rest) > v && !strings.HasPrefix(crlf, rest[v:min(v+2, len(rest))]) {
			return none, 0, api.ErrText
		}
		if len(rest) < v+2 {
			return none, 0, api.ErrShort
		}
		return api.Answer{Kind: 4, Text: rest[:v]}, n + v + 2, nil
	case '*':
		if d == 4 {
			return none, 0, api.ErrText
		}
		v, n, err := number(0, 2000)
		if err != nil {
			return none, 0, err
		}
		a := api.Answer{Kind: 6}
		for range v {
			x, m, err := plainDecode(s[n:], d+1)
			if err != nil {
				return none, 0, err
			}
			a.List, n = append(a.List, x), n+m
		}
		return a, n, nil
	}
	return none, 0, api.ErrText
}

// same tells whether two answers are; no list is an empty one.
func same(a, b api.Answer) bool {
	return a.Kind == b.Kind && a.Num == b.Num && a.Text == b.Text && slices.EqualFunc(a.List, b.List, same)
}

// drain takes all commands that a reader has now, and the fault behind them; what it answers then it must answer again.
func drain(t *testing.T, r *wire.Reader) ([][]string, error) {
	t.Helper()
	var all [][]string
	for {
		words, ok, err := r.Next()
		if ok && (err != nil || len(words) == 0) || !ok && words != nil {
			t.Fatalf("Next = %.60q, %v, %v", words, ok, err)
		}
		if ok {
			all = append(all, words)
			continue
		}
		if words, ok, again := r.Next(); words != nil || ok || again != err {
			t.Fatalf("Next again = %.60q, %v, %v, want %v", words, ok, again, err)
		}
		return all, err
	}
}

// follow feeds a new reader pieces, and holds it behind each of them against the plain reading of all that was fed.
func follow(t *testing.T, pieces ...string) {
	t.Helper()
	r := wire.New()
	var got [][]string
	fed := ""
	for _, piece := range pieces {
		r.Feed(piece)
		fed += piece
		words, fault := drain(t, r)
		got = append(got, words...)
		want, wantFault := plainReading(fed)
		if fault != wantFault || !slices.EqualFunc(got, want, slices.Equal) {
			t.Fatalf("behind %.80q (%d bytes, the last piece has %d): %.80q, %v, want %.80q, %v", fed, len(fed), len(piece), got, fault, want, wantFault)
		}
	}
}

// bytewise is a text cut into single bytes.
func bytewise(s string) []string {
	var l []string
	for i := range len(s) {
		l = append(l, s[i:i+1])
	}
	return l
}

// command is the bytes of a command, made by hand.
func command(words ...string) string {
	s := fmt.Sprintf("*%d\r\n", len(words))
	for _, w := range words {
		s += fmt.Sprintf("$%d\r\n%s\r\n", len(w), w)
	}
	return s
}
