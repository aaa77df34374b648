package wire_test

import (
	"fmt"
	"math/rand"
	"runtime"
	"slices"
	"strings"
	"testing"

	"copse/api"
	"copse/wire"
)

// wantNext holds one answer of Next.
func wantNext(t *testing.T, r *wire.Reader, words []string, ok bool, fault error) {
	t.Helper()
	w, o, err := r.Next()
	if !slices.Equal(w, words) || o != ok || err != fault || !ok && w != nil {
		t.Fatalf("Next = %.60q, %v, %v, want %.60q, %v, %v", w, o, err, words, ok, fault)
	}
}

func TestP24_1_NothingWaits(t *testing.T) {
	r := wire.New()
	for range 3 {
		wantNext(t, r, nil, false, nil)
	}
	r.Feed("")
	wantNext(t, r, nil, false, nil)
}

func TestP24_1_FeedPutsBehind(t *testing.T) {
	r := wire.New()
	r.Feed("a b")
	r.Feed("c\r")
	r.Feed("")
	r.Feed("\n*1\r\n$2\r\nx")
	r.Feed("y\r\nlast\r\n")
	wantNext(t, r, []string{"a", "bc"}, true, nil)
	r.Feed("more\r\n")
	wantNext(t, r, []string{"xy"}, true, nil)
	wantNext(t, r, []string{"last"}, true, nil)
	wantNext(t, r, []string{"more"}, true, nil)
	wantNext(t, r, nil, false, nil)
}

func TestP24_1_ReadersInTurns(t *testing.T) {
	texts := []string{command("get", "a") + "x y\r\n" + command("", "b"), "one\r\n" + command("three", "four", "\r\n") + "\r\n\r\ntwo", "*1\r\n$1\r\nab"}
	readers := []*wire.Reader{wire.New(), wire.New(), wire.New()}
	got := make([][][]string, len(texts))
	faults := make([]error, len(texts))
	for i := range 100 {
		for k, text := range texts {
			if i < len(text) {
				readers[k].Feed(text[i : i+1])
			}
			words, fault := drain(t, readers[k])
			got[k], faults[k] = append(got[k], words...), fault
		}
	}
	for k, text := range texts {
		want, fault := plainReading(text)
		if !slices.EqualFunc(got[k], want, slices.Equal) || faults[k] != fault {
			t.Errorf("reader %d: %q, %v, want %q, %v", k, got[k], faults[k], want, fault)
		}
	}
}

func TestP24_2_Next(t *testing.T) {
	r := wire.New()
	r.Feed(command("get", "a"))
	wantNext(t, r, []string{"get", "a"}, true, nil)
	wantNext(t, r, nil, false, nil)
	r.Feed("\r\n \t\r\n" + command("b") + "\r\n")
	wantNext(t, r, []string{"b"}, true, nil)
	wantNext(t, r, nil, false, nil)
	r.Feed("c")
	wantNext(t, r, nil, false, nil)
	r.Feed("\r")
	wantNext(t, r, nil, false, nil)
	r.Feed("\n")
	wantNext(t, r, []string{"c"}, true, nil)
}

// A fault counts when the reading comes to it, and then for ever.
func TestP24_2_BehindAFault(t *testing.T) {
	for _, c := range []struct {
		bad  string
		want error
	}{{"*x", api.ErrText}, {"*17\r\n", api.ErrMany}, {"a\n", api.ErrText}, {strings.Repeat("a", long+1), api.ErrMany}} {
		r := wire.New()
		r.Feed("a\r\n" + command("b") + c.bad + command("c"))
		wantNext(t, r, []string{"a"}, true, nil)
		wantNext(t, r, []string{"b"}, true, nil)
		for _, more := range []string{"", "\r\n", command("d"), "e\r\n", "\r\n\r\n" + command("f")} {
			wantNext(t, r, nil, false, c.want)
			r.Feed(more)
		}
		wantNext(t, r, nil, false, c.want)
	}
}

// wantFault holds that the bytes have the fault just at their last byte, and the same with anything behind.
func wantFault(t *testing.T, s string, fault error) {
	t.Helper()
	for _, ahead := range []string{"", "ok\r\n", command("ok"), "\r\n"} {
		r := wire.New()
		r.Feed(ahead + s[:len(s)-1])
		if _, err := drain(t, r); err != nil {
			t.Fatalf("%.60q: %v ahead of its last byte", ahead+s, err)
		}
		r.Feed(s[len(s)-1:])
		wantNext(t, r, nil, false, fault)
		for _, behind := range []string{"\r\n", "\n", command("a"), "\x00", "1"} {
			r = wire.New()
			r.Feed(ahead + s + behind)
			if _, err := drain(t, r); err != fault {
				t.Fatalf("%.60q, behind it %q: %v, want %v", ahead+s, behind, err, fault)
			}
		}
	}
}

// wantMore holds that bytes are not whole.
func wantMore(t *testing.T, s string) {
	t.Helper()
	follow(t, s)
	r := wire.New()
	r.Feed(s)
	wantNext(t, r, nil, false, nil)
}

// wantWords holds that bytes are just this command.
func wantWords(t *testing.T, s string, words ...string) {
	t.Helper()
	wantMore(t, s[:len(s)-1])
	r := wire.New()
	r.Feed(s)
	wantNext(t, r, words, true, nil)
	wantNext(t, r, nil, false, nil)
}

// numberLines holds number lines behind a beginning: for each byte and place what stands there.
func numberLines(t *testing.T, ahead string) {
	for b := range 256 {
		s := string([]byte{byte(b)})
		if b < '0' || b > '9' {
			wantFault(t, ahead+s, api.ErrText)
		}
		for _, digits := range []string{"1", "12", "1234", "12345", "123456"} {
			if b != '\r' && (b < '0' || b > '9' || len(digits) == 6) {
				wantFault(t, ahead+digits+s, api.ErrText)
			}
			if b != '\n' {
				wantFault(t, ahead+digits+"\r"+s, api.ErrText)
			}
		}
		if b != '\r' {
			wantFault(t, ahead+"0"+s, api.ErrText)
		}
		if b != '\n' {
			wantFault(t, ahead+"0\r"+s, api.ErrText)
		}
	}
	for _, digits := range []string{"", "0", "1", "9", "10", "999", "1000", "65536", "65537", "99999", "100000", "999999"} {
		wantMore(t, ahead+digits)
		if digits != "" {
			wantMore(t, ahead+digits+"\r")
		}
	}
}

func TestP24_2_NumberOfWords(t *testing.T) {
	numberLines(t, "*")
	wantFault(t, "*0\r\n", api.ErrText)
	for _, n := range []int{17, 18, 20, 100, 1616, 65536, 65537, 99999, 100000, 999999} {
		wantFault(t, fmt.Sprintf("*%d\r\n", n), api.ErrMany)
	}
	for n := 1; n <= 16; n++ {
		wantMore(t, fmt.Sprintf("*%d\r\n", n))
		words := strings.Split(strings.Repeat("w", n), "")
		wantWords(t, command(words...), words...)
	}
}

func TestP24_2_NumberOfBytes(t *testing.T) {
	for _, ahead := range []string{"*1\r\n", "*2\r\n$1\r\na\r\n"} {
		numberLines(t, ahead+"$")
		for _, n := range []int{65537, 65538, 65600, 70000, 99999, 100000, 655360, 999999} {
			wantFault(t, fmt.Sprintf("%s$%d\r\n", ahead, n), api.ErrMany)
		}
		for _, n := range []int{0, 1, 9, 10, 16, 17, 4096, 4097, 65535, 65536} {
			wantMore(t, fmt.Sprintf("%s$%d\r\n", ahead, n))
		}
	}
	for _, n := range []int{0, 1, 9, 10, 16, 17, 4096, 4097, 65535, 65536} {
		w := strings.Repeat("w", n)
		wantWords(t, command(w), w)
		wantWords(t, command("a", w, "b"), "a", w, "b")
	}
	wantWords(t, command(slices.Repeat([]string{strings.Repeat("w", most)}, 16)...), slices.Repeat([]string{strings.Repeat("w", most)}, 16)...)
}

func TestP24_2_Words(t *testing.T) {
	for b := range 256 {
		s := string([]byte{byte(b)})
		if b != '$' {
			wantFault(t, "*1\r\n"+s, api.ErrText)
			wantFault(t, "*2\r\n$1\r\na\r\n"+s, api.ErrText)
		}
		aheads := []string{"*1\r\n$0\r\n", "*1\r\n$1\r\na", "*1\r\n$2\r\n\r\n", "*2\r\n$1\r\na\r\n$3\r\na\rb"}
		if b < 16 {
			aheads = append(aheads, fmt.Sprintf("*1\r\n$%d\r\n%s", most, strings.Repeat("\n", most)))
		}
		for _, ahead := range aheads {
			if b != '\r' {
				wantFault(t, ahead+s, api.ErrText)
			}
			if b != '\n' {
				wantFault(t, ahead+"\r"+s, api.ErrText)
			}
		}
		wantWords(t, command(s), s)
		wantWords(t, command("x"+s+"y", s+s+s, "", s), "x"+s+"y", s+s+s, "", s)
	}
	wantWords(t, command("\r\n", "$1\r\n", "*1\r\n$1\r\na\r\n", "\r", "\n"), "\r\n", "$1\r\n", "*1\r\n$1\r\na\r\n", "\r", "\n")
}

func TestP24_2_PlainLines(t *testing.T) {
	for b := range 256 {
		s := string([]byte{byte(b)})
		may := b == 9 || 0x20 <= b && b <= 0x7e || b >= 0x80
		for _, ahead := range []string{"", "a", " ", "a b", "\xff", strings.Repeat("a", long-1)} {
			switch {
			case b == '\r' || b == '*' && ahead == "":
			case may:
				wantMore(t, ahead+s)
				follow(t, ahead+s+"\r\n", "x\r\n")
			default:
				wantFault(t, ahead+s, api.ErrText)
			}
			if b != '\n' {
				wantFault(t, ahead+"\r"+s, api.ErrText)
			}
		}
		if b != '\r' {
			wantFault(t, strings.Repeat("a", long)+s, api.ErrMany)
		}
		if b != '\n' {
			wantFault(t, strings.Repeat("a", long)+"\r"+s, api.ErrText)
		}
	}
	for _, c := range []struct {
		line  string
		words []string
	}{
		{"a", []string{"a"}}, {"get  a", []string{"get", "a"}}, {" \t a\tb \t", []string{"a", "b"}}, {"a*1 $1 *", []string{"a*1", "$1", "*"}}, {" *1", []string{"*1"}}, {`"a b"`, []string{`"a`, `b"`}},
		{"\x80 \xff\xc3\xa9 \xc2\xa0 \xe2\x80\x83 \x85", []string{"\x80", "\xff\xc3\xa9", "\xc2\xa0", "\xe2\x80\x83", "\x85"}},
		{strings.Repeat("a", long-1), []string{strings.Repeat("a", long-1)}}, {strings.Repeat("a", long), []string{strings.Repeat("a", long)}}, {strings.Repeat(" ", long-1) + "b", []string{"b"}},
		{"a b c d e f g h i j k l m n o p", strings.Split("abcdefghijklmnop", "")}, {"\t" + strings.Repeat("a \t", 16), slices.Repeat([]string{"a"}, 16)},
	} {
		wantWords(t, c.line+"\r\n", c.words...)
	}
	for _, line := range []string{"", " ", "\t", " \t ", strings.Repeat(" ", long), strings.Repeat("\t", long)} {
		wantMore(t, line+"\r\n")
		wantWords(t, line+"\r\n"+line+"\r\na\r\n", "a")
		wantWords(t, line+"\r\n"+command("b"), "b")
	}
	for _, n := range []int{17, 18, 33, 100, 2048} {
		wantMore(t, strings.Repeat("a ", n))
		wantMore(t, strings.Repeat("a ", n)+"\r")
		wantFault(t, strings.Repeat("a ", n)+"\r\n", api.ErrMany)
		wantFault(t, strings.Repeat("\ta", n)+"\r\n", api.ErrMany)
	}
}

// All short texts of the bytes that mean something, whole and in single bytes, behind several beginnings.
func TestP24_2_AllShortTexts(t *testing.T) {
	signs := []byte("*$012\r\na ")
	sum := map[string]int{}
	var each func(ahead, s string, left int)
	each = func(ahead, s string, left int) {
		if left > 0 {
			for _, b := range signs {
				each(ahead, s+string(b), left-1)
			}
			return
		}
		follow(t, ahead+s)
		follow(t, append([]string{ahead}, bytewise(s)...)...)
		commands, fault := plainReading(ahead + s)
		sum[fmt.Sprintf("%d %v", len(commands), fault)]++
	}
	for _, ahead := range []string{"", "*1\r", "*2\r\n$0\r\n", "*1\r\n$1\r\n", "*1\r\n$2", "a\r\n"} {
		for n := range 5 {
			each(ahead, "", n)
		}
	}
	for _, k := range []string{"0 <nil>", "1 <nil>", "0 " + api.ErrText.Error(), "1 " + api.ErrText.Error()} {
		if sum[k] < 100 {
			t.Errorf("%s: seen %d times", k, sum[k])
		}
	}
}

// anyWord, anyStream: words and runs of commands and plain lines, with faults now and then.
func anyWord(rnd *rand.Rand) string {
	n := rnd.Intn(6)
	switch rnd.Intn(40) {
	case 0:
		n = 4090 + rnd.Intn(12)
	case 1:
		n = 65530 + rnd.Intn(7)
	case 2, 3, 4:
		n = rnd.Intn(200)
	}
	p := make([]byte, n)
	for i := range p {
		p[i] = byte(rnd.Intn(256))
		if rnd.Intn(3) == 0 {
			p[i] = "\r\n*$1 "[rnd.Intn(6)]
		}
	}
	return string(p)
}

func anyLine(rnd *rand.Rand) string {
	var p []byte
	for range rnd.Intn(30) {
		b := byte(rnd.Intn(256))
		if b < 0x20 || b == 0x7f || rnd.Intn(3) == 0 {
			b = " \t"[rnd.Intn(2)]
		}
		p = append(p, b)
	}
	line := strings.TrimLeft(string(p), "*")
	if len(strings.Fields(latin(line))) > 16 {
		return ""
	}
	return line + crlf
}

func anyStream(rnd *rand.Rand) (string, [][]string) {
	var commands [][]string
	s := ""
	for range 1 + rnd.Intn(8) {
		if rnd.Intn(3) == 0 {
			line := anyLine(rnd)
			s += line
			if words := strings.Fields(latin(line)); len(words) > 0 {
				for i := range words {
					words[i] = bytesOf(words[i])
				}
				commands = append(commands, words)
			}
			continue
		}
		var words []string
		for range 1 + rnd.Intn(16) {
			words = append(words, anyWord(rnd))
		}
		s += command(words...)
		commands = append(commands, words)
	}
	return s, commands
}

// pieces cuts a text at some places.
func pieces(rnd *rand.Rand, s string, n int) []string {
	cuts := []int{0, len(s)}
	for range n {
		cuts = append(cuts, rnd.Intn(len(s)+1))
	}
	slices.Sort(cuts)
	var l []string
	for i := range len(cuts) - 1 {
		l = append(l, s[cuts[i]:cuts[i+1]])
	}
	return l
}

// wantCommands holds what comes out of a new reader that is fed these pieces.
func wantCommands(t *testing.T, want [][]string, fault error, pieces ...string) {
	t.Helper()
	r := wire.New()
	var got [][]string
	var last error
	for _, piece := range pieces {
		r.Feed(piece)
		words, err := drain(t, r)
		got, last = append(got, words...), err
	}
	if !slices.EqualFunc(got, want, slices.Equal) || last != fault {
		t.Fatalf("%d pieces: %.80q, %v, want %.80q, %v", len(pieces), got, last, want, fault)
	}
}

func TestP24_7_EveryCut(t *testing.T) {
	s := command("get", "a") + "plain line\r\n\r\n" + command("", "\r\n", "*2") + " x \r\n" + command("last")
	want := [][]string{{"get", "a"}, {"plain", "line"}, {"", "\r\n", "*2"}, {"x"}, {"last"}}
	for _, bad := range []struct {
		s     string
		fault error
	}{{"", nil}, {"*1\r\n$1\r\nab", api.ErrText}, {"*0\r\n", api.ErrText}, {"*17\r\n", api.ErrMany}, {strings.Repeat("a ", 17) + "\r\n", api.ErrMany}, {"a\nb\r\n", api.ErrText}} {
		all := s + bad.s
		wantCommands(t, want, bad.fault, all)
		wantCommands(t, want, bad.fault, bytewise(all)...)
		for i := range len(all) + 1 {
			wantCommands(t, want, bad.fault, all[:i], all[i:])
			for k := i; k <= len(all); k += 7 {
				wantCommands(t, want, bad.fault, all[:i], all[i:k], "", all[k:])
			}
		}
	}
}

func TestP24_7_AnyCuts(t *testing.T) {
	t.Parallel()
	rnd := rand.New(rand.NewSource(247))
	for range 300 {
		s, want := anyStream(rnd)
		for range 4 {
			wantCommands(t, want, nil, pieces(rnd, s, rnd.Intn(40))...)
		}
		if len(s) < 20000 {
			wantCommands(t, want, nil, bytewise(s)...)
		}
		var l []string
		for _, words := range want {
			c, err := wire.Command(words)
			if err != nil {
				t.Fatal(err)
			}
			l = append(l, c)
		}
		wantCommands(t, want, nil, l...)
		wantCommands(t, want, nil, strings.Join(l, "\r\n"))
	}
}

// Streams with a byte changed, put in or taken out are read as the plain form reads them, behind every piece.
func TestP24_7_SpoiltStreams(t *testing.T) {
	t.Parallel()
	rnd := rand.New(rand.NewSource(248))
	seen := map[error]int{}
	for range 800 {
		s, _ := anyStream(rnd)
		if len(s) > 2000 {
			s = s[:2000]
		}
		i := rnd.Intn(len(s) + 1)
		b := string("\r\n*$019 \x00a"[rnd.Intn(10)])
		switch rest := s[i:]; rnd.Intn(4) {
		case 0:
			s = s[:i] + b + rest
		case 1:
			s = s[:i] + rest[min(1, len(rest)):]
		case 2:
			s = s[:i] + b + rest[min(1, len(rest)):]
		default: // a number made greater
			if k := strings.Index(rest, "\r\n*"); k >= 0 {
				s = s[:i] + rest[:k+3] + "9" + rest[k+3:]
			}
		}
		follow(t, s)
		follow(t, pieces(rnd, s, 6)...)
		commands, fault := plainReading(s)
		seen[fault]++
		wantCommands(t, commands, fault, bytewise(s)...)
	}
	if seen[nil] < 200 || seen[api.ErrText] < 150 || seen[api.ErrMany] < 12 {
		t.Errorf("seen: %v", seen)
	}
}

// used is the bytes of memory in use.
func used() int {
	runtime.GC()
	runtime.GC()
	var m runtime.MemStats
	runtime.ReadMemStats(&m)
	return int(m.HeapAlloc)
}

// What commands have taken, and lines that were let go, leave no memory behind; nor is what came before kept for the sake of what waits.
func TestP24_8_WhatIsKept(t *testing.T) {
	great := strings.Repeat(command(strings.Repeat("w", 1000)), 8000)
	for _, s := range []string{great, strings.Repeat(" \r\n", 2000000), strings.Repeat("a line\r\n", 300000)} {
		for _, waits := range []string{"", "a", "*2\r\n$3\r\nab", "*x"} {
			before := used()
			r := wire.New()
			r.Feed(s)
			r.Feed(waits)
			for {
				if _, ok, _ := r.Next(); !ok {
					break
				}
			}
			if waits == "*x" {
				r.Feed(s) // behind a fault nothing is read any more
			}
			if after := used(); after > before+1<<20 {
				t.Errorf("%.10q and %q: %d bytes kept", s, waits, after-before)
			}
			runtime.KeepAlive(r)
			runtime.KeepAlive(s)
		}
	}
}

// A command of the greatest size that comes byte by byte takes no more steps than its bytes.
func TestP24_8_ByteByByte(t *testing.T) {
	t.Parallel()
	words := slices.Repeat([]string{strings.Repeat("w", most)}, 16)
	r := wire.New()
	s := command(words...)
	for i := range len(s) - 1 {
		r.Feed(s[i : i+1])
		if _, ok, err := r.Next(); ok || err != nil {
			t.Fatal(i, ok, err)
		}
	}
	r.Feed(s[len(s)-1:])
	wantNext(t, r, words, true, nil)
}

func TestP24_8_AnyBytes(t *testing.T) {
	t.Parallel()
	rnd := rand.New(rand.NewSource(249))
	for range 3000 {
		p := make([]byte, rnd.Intn(60))
		for i := range p {
			p[i] = byte(rnd.Intn(256))
			if rnd.Intn(2) == 0 {
				p[i] = "*$+-:0123456789\r\n"[rnd.Intn(17)]
			}
		}
		follow(t, pieces(rnd, string(p), rnd.Intn(5))...)
		wire.Decode(string(p))
	}
}
