package wire_test

import (
	"math/rand"
	"regexp"
	"strings"
	"testing"

	"copse/api"
	"copse/wire"
)

// wantDecode holds Decode against the plain form.
func wantDecode(t *testing.T, s string) error {
	t.Helper()
	a, n, err := wire.Decode(s)
	want, size, fault := plainDecode(s, 0)
	if !same(a, want) || n != size || err != fault {
		t.Fatalf("Decode(%.80q, %d bytes) = %s, %d, %v, want %s, %d, %v", s, len(s), short(a), n, err, short(want), size, fault)
	}
	return err
}

// wantError holds that no answer is read, and which refusal tells it.
func wantError(t *testing.T, s string, fault error) {
	t.Helper()
	a, n, err := wire.Decode(s)
	if !same(a, api.Answer{}) || a.List != nil || n != 0 || err != fault {
		t.Fatalf("Decode(%.80q, %d bytes) = %s, %d, %v, want %v", s, len(s), short(a), n, err, fault)
	}
	if _, _, plain := plainDecode(s, 0); plain != fault {
		t.Fatalf("the plain form says %v of %.80q, want %v", plain, s, fault)
	}
}

// manyAnswers are of every kind and at every edge.
func manyAnswers() []api.Answer {
	l := []api.Answer{
		status(""), status("OK"), status("a + - : $ * \xff\x80"), failure(""), failure("error lost"), bulk(""), bulk("a"), bulk("\r\n"), bulk("$1\r\na\r\n"), bulk("0123456789"), bulk(strings.Repeat("b", 100)), none(),
		list(), list(none()), list(list()), list(list(), list()), deep(4, none()), deep(3, list()), list(bulk("k"), bulk("v"), num(-3)), list(times(12, num(12))...), list(list(status("x"), failure("y")), list(none(), list(num(0)))),
	}
	for _, n := range []int{0, 1, -1, 9, 10, -10, 2000, 1 << 40, -1 << 40, 1<<63 - 1, -1 << 63} {
		l = append(l, num(n))
	}
	return l
}

// Every answer's bytes are read whatever stands behind them, and every beginning of them is too short.
func TestP24_6_EveryBeginning(t *testing.T) {
	for _, a := range manyAnswers() {
		s := plainBytes(a)
		for i := range len(s) {
			wantError(t, s[:i], api.ErrShort)
		}
		for _, behind := range []string{"", "\r", "\n", "\r\n", "\x00", "x", "1", "-", "$", s, s[:1]} {
			b, n, err := wire.Decode(s + behind)
			if !same(a, b) || n != len(s) || err != nil {
				t.Fatalf("Decode(%q and %q) = %s, %d, %v, want %s", s, behind, short(b), n, err, short(a))
			}
		}
		for _, d := range []int{1, 2, 3, 4} {
			if plainFault(deep(d, a)) == nil {
				wantDecode(t, plainBytes(deep(d, a)))
			}
		}
	}
	for _, a := range []api.Answer{status(strings.Repeat("s", 4096)), bulk(strings.Repeat("s", 65536)), list(times(2000, none())...)} {
		s := plainBytes(a)
		for i := 0; i < len(s); i += 1 + i/7 {
			wantError(t, s[:i], api.ErrShort)
		}
		wantError(t, s[:len(s)-1], api.ErrShort)
		wantError(t, s[:len(s)-2], api.ErrShort)
		wantDecode(t, s)
	}
}

func TestP24_6_NoAnswer(t *testing.T) {
	for _, s := range []string{
		" ", "x", "0", "\r", "\n", "\x00", "\xff", "a\r\n", "OK\r\n", "\r\n+OK\r\n", " :1\r\n", "get a\r\n",
		"+\n", "+a\n", "+a\rb", "+a\r\r", "+\t", "+\x00", "+\x7f", "-\x1f", "-a\n\r", "-\x7f\r\n", "+" + strings.Repeat("a", 4097), "-" + strings.Repeat("a", 4096) + "\t",
		":\r", ":\r\n", ":\n", ":a", ": 1", ":+1", ":+", ":-\r", ":-\r\n", ":--", ":-0", ":-00", ":-0\r\n", ":00", ":01", ":-01", ":1 ", ":1-", ":1\n", ":1\rx", ":1\r\r", ":1a\r\n", ":1.", ":1_0", ":0x", ":1e",
		":9223372036854775808", ":-9223372036854775809", ":9223372036854775807\r ", ":92233720368547758070", ":10000000000000000000", ":18446744073709551616", ":" + strings.Repeat("9", 30), ":٣",
		"$\r", "$\r\n", "$\n", "$-\r", "$-0", "$-2", "$-10", "$-11", "$-1\n", "$-1\rx", "$+", "$00", "$01", "$0\n", "$0\rx", "$ 1", "$1 ", "$65537", "$65540", "$99999", "$100000", "$655360", "$a", "$1_",
		"$0\r\nx", "$0\r\n\n", "$0\r\n\r\r", "$1\r\nab", "$1\r\na\n", "$1\r\na\rx", "$2\r\n\r\n\n", "$3\r\nabcd",
		"*\r", "*\r\n", "*-", "*-1", "*-1\r\n", "*00", "*01", "*0\n", "*0\rx", "*2001", "*2010", "*3000", "*9999", "*10000", "*20000", "* 1", "*+1", "*a",
		"*1\r\nx", "*1\r\n\r\n", "*2\r\n$-1\r\nx", "*1\r\n*1\r\nx", "*1\r\n*1\r\n*1\r\n*1\r\n*", "*1\r\n*1\r\n*1\r\n*1\r\n*0\r\n", "*1\r\n*1\r\n*1\r\n*1\r\n\r", "*2\r\n*1\r\n*1\r\n*1\r\n:1\r\n*1\r\n*1\r\n*1\r\n*",
		"*2\r\n$65537", "*2\r\n:00", "*1\r\n+\n",
	} {
		wantError(t, s, api.ErrText)
		// what no answer begins with is none with anything behind it
		for _, behind := range []string{"\r\n", "\n", "1", "\r", "+", "a\r\n", "\r\n\r\n"} {
			wantError(t, s+behind, api.ErrText)
		}
	}
	for _, s := range []string{"", "+", "-", ":", ":-", ":-1", ":0", ":1\r", "$", "$-", "$-1", "$-1\r", "$0", "$0\r", "$0\r\n", "$0\r\n\r", "$1\r\n", "$1\r\n\r", "$65536", "$6553", "$65536\r\n", "*", "*0", "*0\r", "*1", "*1\r\n", "*2000", "*200", "*2000\r\n", "*2\r\n:1\r\n", "*1\r\n*1\r\n*1\r\n*1\r\n", ":9223372036854775807", ":-9223372036854775808", ":922337203685477580"} {
		wantError(t, s, api.ErrShort)
	}
}

// Every byte at every place of some answers' bytes: in the stead of what stands there, put in, and behind a beginning.
func TestP24_6_EveryByte(t *testing.T) {
	for _, a := range []api.Answer{status("ab"), failure("x"), num(-20), num(0), bulk("ab"), bulk(""), none(), list(), list(num(1), list(bulk("k"), none())), list(times(10, none())...), num(-1 << 63), deep(4, num(1))} {
		s := plainBytes(a)
		for i := range len(s) + 1 {
			for b := range 256 {
				x := string([]byte{byte(b)})
				wantDecode(t, s[:i]+x)
				wantDecode(t, s[:i]+x+s[i:])
				if i < len(s) {
					wantDecode(t, s[:i]+x+s[i+1:])
				}
			}
		}
	}
}

// complete puts bytes behind such as are too short until they are an answer, without knowing how they are read: it tries what may come next.
func complete(t *testing.T, s string) string {
	t.Helper()
	for range 100000 {
		_, _, err := wire.Decode(s)
		if err == nil {
			return s
		}
		next := ""
		for _, more := range []string{"\r\n", "\n", "1", "+"} {
			if _, _, err := wire.Decode(s + more); err != api.ErrText {
				next = more
				break
			}
		}
		if next == "" {
			t.Fatalf("%.80q: nothing may come next", s)
		}
		s += next
	}
	t.Fatalf("%.80q: it does not come to an end", s)
	return ""
}

// great begins lists and bulks whose completion takes long.
var great = regexp.MustCompile(`[*$][0-9]{3}`)

// wantAnswered holds that a text begins with the bytes of an answer that may be, and has none behind them if it is to be whole.
func wantAnswered(t *testing.T, s string, whole bool) {
	t.Helper()
	a, n, err := wire.Decode(s)
	if err != nil || n > len(s) || whole && n < len(s) || plainFault(a) != nil || plainBytes(a) != s[:n] {
		t.Fatalf("Decode(%.80q) = %s, %d, %v", s, short(a), n, err)
	}
}

// All short texts of the bytes that mean something: what is too short can be completed, what is no answer is none with more behind it.
func TestP24_6_AllShortTexts(t *testing.T) {
	t.Parallel()
	seen := map[error]int{}
	var each func(s string, before error, left int)
	each = func(s string, before error, left int) {
		err := wantDecode(t, s)
		seen[err]++
		switch {
		case before == api.ErrText && err != before:
			t.Fatalf("%q: %v, without its last byte %v", s, err, before)
		case err == nil:
			wantAnswered(t, s, before == api.ErrShort)
		case err == api.ErrShort && !great.MatchString(s):
			wantAnswered(t, complete(t, s), true)
		}
		for _, b := range []byte(":$*-+012\r\na") {
			if left > 0 {
				each(s+string(b), err, left-1)
			}
		}
	}
	each("", api.ErrShort, 4)
	for _, ahead := range []string{"*1\r\n", "$2\r\n", "*2\r\n*0\r\n", "$1\r\na", "*1\r\n*1\r\n*1\r\n*1\r\n", "+a\r", ":-1", "*200", "$6553", ":922337203685477580", ":-922337203685477580"} {
		each(ahead, api.ErrShort, 3)
	}
	if seen[nil] < 100 || seen[api.ErrShort] < 1000 || seen[api.ErrText] < 5000 {
		t.Errorf("seen: %v", seen)
	}
	for _, s := range []string{"*2000", "*1999\r", "$4096\r\n"} {
		wantAnswered(t, complete(t, s), true)
	}
}

// What becomes of answers' bytes in which something is changed, put in, taken out or cut off.
func TestP24_6_SpoiltAnswers(t *testing.T) {
	t.Parallel()
	rnd := rand.New(rand.NewSource(246))
	seen := map[error]int{}
	for range 3000 {
		s := plainBytes(anyAnswer(rnd, 0, 0))
		if len(s) > 5000 {
			continue
		}
		for range 4 {
			i := rnd.Intn(len(s) + 1)
			b := string("\r\n*$+-:019 \x00a"[rnd.Intn(13)])
			switch rest := s[i:]; rnd.Intn(4) {
			case 0:
				s = s[:i] + b + rest
			case 1:
				s = s[:i] + rest[min(1, len(rest)):]
			case 2:
				s = s[:i] + b + rest[min(1, len(rest)):]
			}
			err := wantDecode(t, s)
			seen[err]++
			if err == nil {
				wantAnswered(t, s, false)
			}
			wantDecode(t, s[:rnd.Intn(len(s)+1)])
		}
	}
	if seen[nil] < 300 || seen[api.ErrShort] < 300 || seen[api.ErrText] < 300 {
		t.Errorf("seen: %v", seen)
	}
}
