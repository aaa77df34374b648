package dump_test

import (
	"fmt"
	"math/rand"
	"regexp"
	"slices"
	"strconv"
	"strings"
	"testing"

	"copse/api"
	"copse/device"
	"copse/dump"
	"copse/meta"
	"copse/script"
	"copse/walk"
)

// plainQuote is a word as layer 15 quotes it.
func plainQuote(word string) string {
	if regexp.MustCompile(`^[!$-\[\]-~][!#-\[\]-~]*$`).MatchString(word) {
		return word
	}
	out := `"`
	for _, b := range []byte(word) {
		switch {
		case b == '"' || b == '\\':
			out += `\` + string(rune(b))
		case b < 0x20 || b > 0x7E:
			out += fmt.Sprintf(`\x%02x`, b)
		default:
			out += string(rune(b))
		}
	}
	return out + `"`
}

func plainLines(l []api.Pair) []string {
	var lines []string
	for _, p := range l {
		lines = append(lines, fmt.Sprintf("put %s %s", plainQuote(p.Key), plainQuote(p.Value)))
	}
	return append(lines, fmt.Sprintf("end %d", len(l)))
}

// oddPairs are pairs that must be quoted, and some that need not be.
func oddPairs() []api.Pair {
	all := ""
	for b := range 256 {
		all += string([]byte{byte(b)})
	}
	book := map[string]string{all[1:]: all, "#": "#", "a#": "#a", "put": "end", "end": "1", "\\": "\\", "\"": "\"", "a b": " a  b ", "é": "é", "\n": "\r\n", "0": "", "~": "!", strings.Repeat("\xff", 255): strings.Repeat("\x00", 700), "$": "$\\", "\x7f": "\x7e", "\x1f": "\x20"}
	for b := range 256 {
		book[string([]byte{byte(b)})] = string([]byte{'v', byte(b)})
	}
	return inOrder(book)
}

// wantLines wants of Dump just these, and that it writes nothing.
func wantLines(t *testing.T, what string, d *device.Device, want []string, wantErr error) {
	t.Helper()
	before := imageOf(d)
	got, err := dump.Dump(d)
	if err != wantErr || !slices.Equal(got, want) {
		t.Errorf("%s: Dump: %s, %v; want %s, %v", what, show(got), err, show(want), wantErr)
	}
	wantSame(t, what+": Dump", imageOf(d), before)
}

func TestP21_1_Lines(t *testing.T) {
	many := alike(250, 300)
	for _, c := range []struct {
		what string
		d    *device.Device
		l    []api.Pair
	}{
		{"formatted", storeOf(t, 4, 0, nil), nil},
		{"emptied", storeOf(t, 4, 3, nil), nil},
		{"one pair", storeOf(t, 4, 1, pairs("a", "1")), pairs("a", "1")},
		{"an empty value", storeOf(t, 4, 2, pairs("a", "")), pairs("a", "")},
		{"two pairs, put out of order", storeOf(t, 8, 1, pairs("b", "2", "a", "1")), pairs("a", "1", "b", "2")},
		{"odd pairs", storeOf(t, 40, 1, oddPairs()), oddPairs()},
		{"many pairs", storeOf(t, 80, 1, many), many},
		{"pairs in three rows", storeOf(t, 400, 1, alike(120, 960)), alike(120, 960)},
	} {
		wantLines(t, c.what, c.d, plainLines(c.l), nil)
		if again, err := dump.Dump(c.d); err != nil || !slices.Equal(again, plainLines(c.l)) {
			t.Errorf("%s: asked again: %s, %v", c.what, show(again), err)
		}
	}
	wantLines(t, "by hand", storeOf(t, 4, 1, pairs("b c", "x\"\\\x00é", "a", "", "#", "##")), []string{`put "#" "##"`, `put a ""`, `put "b c" "x\"\\\x00\xc3\xa9"`, "end 3"}, nil)
}

func TestP21_1_NoStore(t *testing.T) {
	lost := storeOf(t, 8, 1, pairs("a", "1"))
	must(t, lost.Write(16, make([]byte, 512)))
	later := storeOf(t, 8, 1, pairs("a", "1"))
	must(t, meta.Store(later, api.Meta{Pages: 8, Root: 3, Txid: 2}))
	for _, c := range []struct {
		what string
		d    *device.Device
	}{
		{"zeros", device.New(64)}, {"31 sectors", device.New(31)}, {"no sectors", device.New(0)}, {"a root that is no page", later}, {"a leaf that is none", lost},
	} {
		wantLines(t, c.what, c.d, nil, api.ErrCorrupt)
	}
	for _, c := range []struct {
		what string
		d    *device.Device
		err  error
	}{
		{"a store", storeOf(t, 8, 1, pairs("a", "1")), api.ErrDead}, {"zeros", device.New(64), api.ErrDead}, {"31 sectors", device.New(31), api.ErrCorrupt},
	} {
		c.d.Crash(nil)
		wantLines(t, c.what+", dead", c.d, nil, c.err)
		if _, err := walk.Content(c.d); err != c.err {
			t.Errorf("%s, dead: Content: %v", c.what, err)
		}
	}
}

// plainRead is P21.2, sentence by sentence: every line is looked at with all that stand ahead of it.
func plainRead(lines []string) ([]api.Pair, error) {
	var l []api.Pair
	for i, line := range lines {
		words, err := script.Words(line)
		if err != nil {
			return nil, api.ErrText
		}
		isPut := len(words) == 3 && words[0] == "put"
		isEnd := len(words) == 2 && words[0] == "end"
		if !isPut && !isEnd {
			return nil, api.ErrText
		}
		if isPut {
			l = append(l, api.Pair{Key: words[1], Value: words[2]})
			if err := plainFault(l); err != nil {
				return nil, err
			}
			continue
		}
		if words[1] != fmt.Sprint(len(l)) || i+1 < len(lines) {
			return nil, api.ErrText
		}
		return l, nil
	}
	return nil, api.ErrShort
}

func wantRead(t *testing.T, lines []string, want []api.Pair, wantErr error) {
	t.Helper()
	if l, err := plainRead(lines); err != wantErr || !slices.Equal(l, want) {
		t.Fatalf("Read(%s): the test's own words say %s, %v", show(lines), show(l), err)
	}
	got, err := dump.Read(lines)
	if err != wantErr || !slices.Equal(got, want) || err != nil && len(got) != 0 {
		t.Errorf("Read(%s): %s, %v; want %s, %v", show(lines), show(got), err, show(want), wantErr)
	}
}

func wantNotRead(t *testing.T, want error, lines ...string) {
	t.Helper()
	wantRead(t, lines, nil, want)
}

func TestP21_2_Pairs(t *testing.T) {
	for _, l := range [][]api.Pair{nil, pairs("a", "1"), pairs("a", ""), pairs("a", "", "aa", "", "b", "2"), oddPairs(), alike(10, 12), alike(11, 12), alike(99, 12), alike(100, 12), alike(1234, 9), stand(255, 4, 100)} {
		wantRead(t, plainLines(l), l, nil)
	}
	wantRead(t, []string{"end 0"}, nil, nil)
	for _, c := range []struct {
		line string
		l    []api.Pair
	}{
		{"  put   a 1  ", pairs("a", "1")}, {`"put" "a" "1"`, pairs("a", "1")}, {`put "\x61" "\x31\X"`, nil}, {`put "\x61" "\x3A\x3a"`, pairs("a", "::")}, {`"p\x75t" a 1`, pairs("a", "1")}, {`put a "b c"`, pairs("a", "b c")}, {`put a\b c\`, pairs(`a\b`, `c\`)}, {`put # #`, pairs("#", "#")}, {`put put end`, pairs("put", "end")}, {`put end 1`, pairs("end", "1")}, {`put " " ""`, pairs(" ", "")},
	} {
		if c.l == nil {
			wantNotRead(t, api.ErrText, c.line, "end 1")
			continue
		}
		for _, end := range []string{"end 1", "  end  1 ", `end "1"`, `"end" 1`, `"\x65nd" "\x31"`} {
			wantRead(t, []string{c.line, end}, c.l, nil)
		}
	}
}

func TestP21_2_NoEnd(t *testing.T) {
	wantNotRead(t, api.ErrShort)
	wantRead(t, []string{}, nil, api.ErrShort)
	wantNotRead(t, api.ErrShort, "put a 1")
	wantNotRead(t, api.ErrShort, "put a 1", "put b 1")
	wantNotRead(t, api.ErrShort, plainLines(alike(100, 12))[:100]...)
	wantNotRead(t, api.ErrShort, "put end 1")
}

func TestP21_2_OtherLines(t *testing.T) {
	for _, line := range []string{
		"", " ", "x", "put", "put a", "put a 1 2", "put a 1 2 3", "end", "end 0 0", "end 0 0 0", "PUT a 1", "Put a 1", "END 0", "puta 1", "put\ta 1", "put a\t1", "put a 1\n", "end 0\n", "\nend 0", "get a", "# end 0", "#", "a 1", "put, a 1", "put a=1", "end: 0", "put=a 1 2", `""`, `"" a 1`, `"put a" 1`, `"put a 1"`, `"end 0"`, `put "a"1`, `put "a 1`, `put a" 1`, `put a "\q"`, `put a "\x1"`, "put a \x00", "put a \x7f", "put a é", "\xffput a 1", "commit", `put "a\" 1`, `"put"a 1`, "end 0 #", "delete a",
	} {
		for _, behind := range [][]string{nil, {"end 0"}, {"end 1"}, {"put b 1", "end 2"}, {"x"}} {
			wantNotRead(t, api.ErrText, append([]string{line}, behind...)...)
		}
		wantNotRead(t, api.ErrText, "put a 1", line, "end 1")
		wantNotRead(t, api.ErrText, "put a 1", line)
		wantNotRead(t, api.ErrText, "put a 1", "end 1", line)
	}
}

func TestP21_2_PairsThatMayNotBe(t *testing.T) {
	k, v := strings.Repeat("k", 300), strings.Repeat("v", 800)
	for _, c := range []struct {
		key, value int
		err        error
	}{
		{0, 0, api.ErrArg}, {0, 1, api.ErrArg}, {1, 0, nil}, {254, 699, nil}, {255, 700, nil}, {256, 0, api.ErrArg}, {257, 700, api.ErrArg}, {1, 701, api.ErrArg}, {255, 701, api.ErrArg}, {0, 701, api.ErrArg}, {300, 800, api.ErrArg},
	} {
		p := api.Pair{Key: k[:c.key], Value: v[:c.value]}
		for _, ahead := range [][]api.Pair{nil, pairs("a", "1"), pairs("a", "1", "b", "2")} {
			l := append(slices.Clone(ahead), p)
			lines := plainLines(l)
			if c.err == nil {
				wantRead(t, lines, l, nil)
				continue
			}
			wantNotRead(t, c.err, lines...)
			wantNotRead(t, c.err, lines[:len(l)]...)
			wantNotRead(t, c.err, append(lines[:len(l):len(l)], "x")...)
		}
	}
	// The bytes of the word count, not those of the line.
	long := `"` + strings.Repeat(`\x61`, 255) + `"`
	wantRead(t, []string{"put " + long + " 1", "end 1"}, pairs(strings.Repeat("a", 255), "1"), nil)
	wantNotRead(t, api.ErrArg, "put "+`"\x61`+long[1:]+" 1", "end 1")
	wantNotRead(t, api.ErrArg, `put a "`+strings.Repeat(`\xff`, 701)+`"`, "end 1")
}

func TestP21_2_Order(t *testing.T) {
	rising := []string{"\x00", "\x00\x00", "\x01", "A", "a", "a\x00", "aa", "ab", "b", "\x7f", "\x80", "é", "\xff", "\xff\x00", "\xff\xff"}
	for i, a := range rising {
		for j, b := range rising {
			want := api.ErrOrder
			if i < j {
				want = nil
			}
			for _, ahead := range [][]api.Pair{nil, pairs("\x00\x00\x00", "")} {
				if len(ahead) > 0 && i < 2 {
					continue
				}
				l := append(slices.Clone(ahead), pairs(a, "1", b, "1")...)
				if want == nil {
					wantRead(t, plainLines(l), l, nil)
				} else {
					wantNotRead(t, want, plainLines(l)...)
					wantNotRead(t, want, plainLines(l)[:len(l)]...)
				}
			}
		}
	}
	all := alike(60, 12)
	for i := 1; i < len(all); i++ {
		l := slices.Clone(all)
		l[i].Key = l[i-1].Key
		wantNotRead(t, api.ErrOrder, plainLines(l)...)
		l = slices.Clone(all)
		l[i], l[i-1] = l[i-1], l[i]
		wantNotRead(t, api.ErrOrder, plainLines(l)...)
	}
}

func TestP21_2_Ends(t *testing.T) {
	for _, n := range []int{0, 1, 7, 10, 100} {
		l := alike(n, 12)
		ahead := plainLines(l)[:n:n]
		right := strconv.Itoa(n)
		for _, word := range []string{strconv.Itoa(n + 1), strconv.Itoa(n - 1), "0" + right, "00" + right, "+" + right, "-" + right, right + ".", right + "0", right + ".0", right + "e0", "0x" + right, `""`, `"` + right + ` "`, `" ` + right + `"`, "end", "x", "#", "-", strings.Repeat("9", 40), strings.Repeat("0", 9999) + right, "1" + strings.Repeat("0", 19), "18446744073709551616", strconv.Itoa(n) + "_0", `"\xd9\xa0"`, `"` + right + `\x00"`, "ten"} {
			wantNotRead(t, api.ErrText, append(ahead, "end "+word)...)
			wantNotRead(t, api.ErrText, append(ahead, "end "+word, "x")...)
		}
		for _, behind := range []string{"", " ", "x", "end " + right, "end 0", "put zzzzz 1", "#", `"`} {
			wantNotRead(t, api.ErrText, append(ahead, "end "+right, behind)...)
			wantNotRead(t, api.ErrText, append(ahead, "end "+right, behind, behind)...)
		}
		wantRead(t, append(ahead, "end "+right), l, nil)
	}
	wantNotRead(t, api.ErrText, "put a 1", "end 18446744073709551617")
}

// Of several faults the first line's is told; of one line ErrArg counts ahead of ErrOrder.
func TestP21_2_SeveralFaults(t *testing.T) {
	wantNotRead(t, api.ErrText, "put b 1", "x", "put a 1")
	wantNotRead(t, api.ErrOrder, "put b 1", "put a 1", "x")
	wantNotRead(t, api.ErrArg, "put b 1", `put "" 1`, "put a 1")
	wantNotRead(t, api.ErrArg, `put "" 1`, "x")
	wantNotRead(t, api.ErrOrder, "put b 1", "put b 1", `put "" 1`)
	wantNotRead(t, api.ErrArg, "put b 1", "put a "+strings.Repeat("v", 701))
	wantNotRead(t, api.ErrText, "put a 1", "end 0", "put a 1")
	wantNotRead(t, api.ErrText, "end 1", "end 0")
	wantNotRead(t, api.ErrOrder, "put a 1", "put a 1", "end 2")
	r := rand.New(rand.NewSource(212))
	seen := map[error]int{}
	for range 20000 {
		lines := someLines(r)
		l, err := plainRead(lines)
		seen[err]++
		wantRead(t, lines, l, err)
	}
	for _, err := range []error{nil, api.ErrText, api.ErrArg, api.ErrOrder, api.ErrShort} {
		if seen[err] < 300 {
			t.Errorf("only %d of the lists were for %v", seen[err], err)
		}
	}
}

// someLines are mostly rising, with a fault here and there.
func someLines(r *rand.Rand) []string {
	odd := []string{"", "x", "put", "put a", `put "" 1`, "put a 1 2", "end", "put a " + strings.Repeat("v", 701), `put "a`, "put a 1", "end 0", "end 1", `put "\xff" ""`}
	var lines []string
	n := r.Intn(7)
	for i := range n {
		lines = append(lines, fmt.Sprintf("put %s%s %s", strings.Repeat(" ", r.Intn(2)), plainQuote(string(rune('a'+i))+randomText(r, 0, 2)), plainQuote(randomText(r, 0, 3))))
	}
	if r.Intn(5) > 0 {
		lines = append(lines, "end "+strconv.Itoa(n))
	}
	for range r.Intn(3) {
		at := r.Intn(len(lines) + 1)
		switch r.Intn(3) {
		case 0:
			lines = slices.Insert(lines, at, odd[r.Intn(len(odd))])
		case 1:
			if at < len(lines) {
				lines[at] = odd[r.Intn(len(odd))]
			}
		case 2:
			if at+1 < len(lines) {
				lines[at], lines[at+1] = lines[at+1], lines[at]
			}
		}
	}
	return lines
}
