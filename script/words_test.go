package script_test

import (
	"fmt"
	"regexp"
	"slices"
	"strings"
	"testing"
	"unsafe"

	"copse/api"
	"copse/script"
)

// wantWords holds the words of a line against those that it should have.
func wantWords(t *testing.T, line string, want ...string) {
	t.Helper()
	l, err := script.Words(line)
	if err != nil || !slices.Equal(l, want) {
		t.Fatalf("Words(%.60q) = %.60q, %v, want %.60q", line, l, err, want)
	}
}

func wantNoWords(t *testing.T, line string) {
	t.Helper()
	if l, err := script.Words(line); l != nil || err != api.ErrText {
		t.Fatalf("Words(%.60q) = %.60q, %v, want ErrText", line, l, err)
	}
}

func TestP15_1_Words(t *testing.T) {
	wantWords(t, "")
	wantWords(t, " ")
	wantWords(t, strings.Repeat(" ", 70000))
	wantWords(t, "open", "open")
	wantWords(t, "  put   a  1   ", "put", "a", "1")
	wantWords(t, `put a "b c" ""`, "put", "a", "b c", "")
	wantWords(t, `""`, "")
	wantWords(t, `  "" ""  `, "", "")
	wantWords(t, `" a "`, " a ")
	wantWords(t, `# a #b "#"`, "#", "a", "#b", "#")
	wantWords(t, `a\b \`, `a\b`, `\`)
	wantWords(t, `"\"" "\\" "\\\"" "\x22\x5c"`, `"`, `\`, `\"`, `"\`)
	wantWords(t, `"\x41\x6A\x6a\xFf\xfF\x00"`, "Ajj\xff\xff\x00")
	wantWords(t, `"\x411" "\x0a" "\\x41"`, "A1", "\n", `\x41`)
	wantWords(t, "!~ \"!~\"", "!~", "!~")
	wantWords(t, "Put PUT put", "Put", "PUT", "put")
}

func TestP15_1_NoWords(t *testing.T) {
	for _, line := range []string{
		`a"b`, `a"`, `a""`, `a "b`, `"`, `"a`, `"a b`, `"a"b`, `"a""b"`, `"""`, `""a`, `"" ""a`,
		`"\q"`, `"\`, `"\"`, `"\\`, `"\x`, `"\x"`, `"\x4"`, `"\x4`, `"\xg0"`, `"\x0g"`, `"\x 1"`, `"\x+1"`, `"\x-1"`, `"\x_1"`, `"\x1_"`, `"\X41"`, `"\n"`, `"\'"`, `"\ "`,
		"\t", "a\tb", "a\t", "\ta", "\"a\tb\"", "\"a\"\t", "\"a\"\"", "\x7f", "a\x7f", "\"\x7f\"", "\x80", "\"\x80\"", "é", "\"é\"", "\x00", "\"\x00\"", "a\n", "\n", "a\r", "\"\n\"",
		`good "words" then bad"`, "good \x1f", "  a  \"b\"  c\"",
	} {
		wantNoWords(t, line)
	}
}

// Each byte as a word of its own, within one, between quotes, escaped, and behind the closing quote.
func TestP15_1_EveryByte(t *testing.T) {
	for i := range 256 {
		b := string([]byte{byte(i)})
		bare := i > 0x20 && i < 0x7f && i != '"'
		for _, ends := range [][2]string{{"", ""}, {"a", ""}, {"", "a"}, {"a", "a"}, {"a b", "b c"}} {
			line := ends[0] + b + ends[1]
			switch {
			case bare:
				wantWords(t, line, strings.Fields(line)...)
			case i != ' ' && line != `"`:
				wantNoWords(t, line)
			}
			if i >= 0x20 && i < 0x7f && i != '"' && i != '\\' {
				wantWords(t, `"`+line+`"`, line)
			} else if ends != [2]string{} {
				wantNoWords(t, `x "`+line+`"`)
			}
		}
		if i == '"' || i == '\\' {
			wantWords(t, `"\`+b+`" "a\`+b+`b"`, b, "a"+b+"b")
		} else {
			wantNoWords(t, `"\`+b+`"`)
			wantNoWords(t, `"a\`+b+`b"`)
		}
		if i == ' ' {
			wantWords(t, `"a"`+b, "a")
		} else {
			wantNoWords(t, `"a"`+b)
		}
	}
}

// Every two bytes behind \x.
func TestP15_1_EveryTwoDigits(t *testing.T) {
	digit := func(i int) int {
		at := strings.IndexByte("0123456789abcdefABCDEF", byte(i))
		if at > 15 {
			return at - 6
		}
		return at
	}
	for i := range 256 {
		for j := range 256 {
			line := `"a\x` + string([]byte{byte(i), byte(j)}) + `b"`
			if digit(i) < 0 || digit(j) < 0 {
				wantNoWords(t, line)
			} else {
				wantWords(t, line, "a"+string([]byte{byte(16*digit(i) + digit(j))})+"b")
			}
		}
	}
}

var (
	lineForm  = regexp.MustCompile(`^ *(` + wordForm + `( +` + wordForm + `)* *)?$`)
	wordForms = regexp.MustCompile(wordForm)
	byteForms = regexp.MustCompile(byteForm)
)

const (
	byteForm = `(\\["\\]|\\x[0-9a-fA-F]{2}|[ !#-\[\]-~])`
	wordForm = `("` + byteForm + `*"|[!#-~][!#-~]*)`
)

// plainWords is the words of a line, by regular expressions.
func plainWords(line string) ([]string, bool) {
	if !lineForm.MatchString(line) {
		return nil, false
	}
	var words []string
	for _, w := range wordForms.FindAllString(line, -1) {
		if w[0] == '"' {
			w = byteForms.ReplaceAllStringFunc(w[1:len(w)-1], plainByte)
		}
		words = append(words, w)
	}
	return words, true
}

func plainByte(s string) string {
	switch len(s) {
	case 2:
		return s[1:]
	case 4:
		var b byte
		fmt.Sscanf(s[2:], "%x", &b)
		return string([]byte{b})
	}
	return s
}

// All lines up to some length of bytes that mean something, and of some that do not.
func TestP15_1_AllShortLines(t *testing.T) {
	good := 0
	var look func(line string, more int)
	look = func(line string, more int) {
		want, ok := plainWords(line)
		if ok {
			wantWords(t, line, want...)
			good++
		} else {
			wantNoWords(t, line)
		}
		for _, b := range []byte(" a\"\\x4F\t\x80") {
			if more > 0 {
				look(line+string([]byte{b}), more-1)
			}
		}
	}
	look("", 5)
	for _, head := range []string{`"\x`, `"\`, `"a" `, `a `} {
		look(head, 4)
	}
	if good < 5000 {
		t.Errorf("%d lines with words", good)
	}
}

func TestP15_1_LongLines(t *testing.T) {
	var want []string
	for i := range 20000 {
		want = append(want, fmt.Sprint(i))
	}
	wantWords(t, strings.Join(want, " "), want...)
	wantWords(t, `"`+strings.Join(want, `" "`)+`"`, want...)
	wantNoWords(t, strings.Join(want, " ")+` "`)
	long := strings.Repeat("a", 200000)
	wantWords(t, long+` "`+long+` " `+long, long, long+" ", long)
	wantWords(t, `"`+strings.Repeat(`\x00`, 70000)+`"`, strings.Repeat("\x00", 70000))
}

// Words are their own memory: a line that lies in memory of the caller's may be written over.
func TestP15_1_NothingIsKept(t *testing.T) {
	line := []byte(`bare "quoted" a\b ""`)
	l, err := script.Words(unsafe.String(&line[0], len(line)))
	must(t, err)
	if string(line) != `bare "quoted" a\b ""` {
		t.Errorf("Words has changed its line: %q", line)
	}
	for i := range line {
		line[i] = 'z'
	}
	if !slices.Equal(l, []string{"bare", "quoted", `a\b`, ""}) {
		t.Errorf("the words have become %q", l)
	}
	a, _ := script.Words("a b c")
	b, _ := script.Words("a b c")
	_ = append(a[:1], "z", "z")
	if !slices.Equal(b, []string{"a", "b", "c"}) {
		t.Errorf("the words of another call have become %q", b)
	}
}

// plainQuote is what Quote should be, by fmt.
func plainQuote(word string) string {
	bare := word != "" && word[0] != '#'
	var out strings.Builder
	for _, b := range []byte(word) {
		bare = bare && b > 0x20 && b < 0x7f && b != '"' && b != '\\'
		switch {
		case b == '"' || b == '\\':
			out.WriteString(`\` + string(rune(b)))
		case b < 0x20 || b > 0x7e:
			fmt.Fprintf(&out, `\x%02x`, b)
		default:
			out.WriteByte(b)
		}
	}
	if bare {
		return word
	}
	return `"` + out.String() + `"`
}

func wantQuoted(t *testing.T, word string) {
	t.Helper()
	q := script.Quote(word)
	if want := plainQuote(word); q != want {
		t.Fatalf("Quote(%.60q) = %.60q, want %.60q", word, q, want)
	}
	wantWords(t, q, word)
	wantWords(t, " "+q+"  "+q, word, word)
}

func TestP15_2_Quote(t *testing.T) {
	for word, want := range map[string]string{
		"": `""`, "a": "a", "#": `"#"`, "#a": `"#a"`, "a#": "a#", "a b": `"a b"`, " ": `" "`, "\x00": `"\x00"`, "\n": `"\x0a"`,
		`"`: `"\""`, `a"b`: `"a\"b"`, `\`: `"\\"`, `a\b`: `"a\\b"`, "\xff~": `"\xff~"`, "\x7f": `"\x7f"`, "!~": "!~", "é": `"\xc3\xa9"`, "\x1f\x20": `"\x1f "`,
	} {
		if got := script.Quote(word); got != want {
			t.Errorf("Quote(%q) = %s, want %s", word, got, want)
		}
		wantQuoted(t, word)
	}
}

func TestP15_2_EveryWordOfTwoBytes(t *testing.T) {
	for i := range 256 {
		wantQuoted(t, string([]byte{byte(i)}))
		for j := range 256 {
			wantQuoted(t, string([]byte{byte(i), byte(j)}))
		}
	}
}

func TestP15_2_LongWords(t *testing.T) {
	all := ""
	for i := range 256 {
		all += string([]byte{byte(255 - i)})
	}
	for _, word := range []string{all, strings.Repeat(all, 40), strings.Repeat("a", 9000), strings.Repeat("a", 9000) + " ", strings.Repeat(`\x00"`, 2000), strings.Repeat("#", 300)} {
		wantQuoted(t, word)
		for cut := range 256 {
			wantQuoted(t, word[cut:min(len(word), cut+300)])
		}
	}
}

func TestP15_2_NothingIsKept(t *testing.T) {
	for _, word := range []string{"bare", "not bare", "#"} {
		memory := []byte(word)
		q := script.Quote(unsafe.String(&memory[0], len(memory)))
		if string(memory) != word {
			t.Errorf("Quote has changed its word: %q", memory)
		}
		for i := range memory {
			memory[i] = 'z'
		}
		if q != plainQuote(word) {
			t.Errorf("Quote(%q) has become %q", word, q)
		}
	}
}
