package query_test

import (
	"fmt"
	"math"
	"math/rand"
	"slices"
	"strings"
	"testing"

	"copse/api"
	"copse/query"
)

// wantQuery holds that a text is read as a query.
func wantQuery(t *testing.T, s string, want api.Query) {
	t.Helper()
	if q, err := query.Parse(s); !sameQuery(q, want) || err != nil {
		t.Errorf("Parse(%.90q) = %.200q, %v, want %.200q", s, fmt.Sprint(q), err, fmt.Sprint(want))
	}
}

// wantNoQuery holds that a text is refused.
func wantNoQuery(t *testing.T, s string, want error) {
	t.Helper()
	if q, err := query.Parse(s); !sameQuery(q, api.Query{}) || q.Conditions != nil || err != want {
		t.Errorf("Parse(%.90q) = %.200q, %v, want %v", s, fmt.Sprint(q), err, want)
	}
}

// wantItem holds that an item is read so, alone, in lists, and right beside other tokens.
func wantItem(t *testing.T, s string, want api.Item) {
	t.Helper()
	wantQuery(t, "from T where f = "+s, from("T", where("f", 1, want)))
	wantQuery(t, "from T where f=["+s+"]", from("T", where("f", 1, listOf(want))))
	wantQuery(t, "from T where f=[ "+s+" ,"+s+"] limit 1", ordered(from("T", where("f", 1, listOf(want, want))), "", false, 1))
}

func wantNoItem(t *testing.T, s string) {
	t.Helper()
	for _, form := range []string{"from T where f = %s", "from T where f=[%s]", "from T where f = [1, %s]", "from T where f = %s and f = 1", "from T where f = 1 and f = %s limit 1"} {
		wantNoQuery(t, strings.Replace(form, "%s", s, 1), api.ErrText)
	}
}

func TestP18_Examples(t *testing.T) {
	wantQuery(t, "from T", from("T"))
	full := ordered(from("T", where("f", 1, num(1)), where("g", 5, text("x"))), "g", true, 5)
	wantQuery(t, "from T where f=1 and g >= \"x\" order by g falling limit 5", full)
	if s, err := query.Print(full); s != "from T where f = 1 and g >= \"x\" order by g falling limit 5" || err != nil {
		t.Errorf("%q, %v", s, err)
	}
	wantQuery(t, "from `from`", from("from"))
	for _, s := range []string{"", "from", "from T where", "from T limit 0", "from T limit 01", "from 9", "from T order g", "From T", "from T where f = [1,]", "from T x"} {
		wantNoQuery(t, s, api.ErrText)
	}
	wantQuery(t, "from T where f = [1, [\"a\\x00\"], null]", from("T", where("f", 1, listOf(num(1), listOf(text("a\x00")), null()))))
	wantQuery(t, "from T where f = 1and g = 2", from("T", where("f", 1, num(1)), where("g", 1, num(2))))
	wantText(t, from("T", where("f", 1, num(-3))), "from T where f = -3")
	wantNoText(t, from("a b"), api.ErrArg)
	wantText(t, from("a-b"), "from `a-b`")
}

func TestP18_1_Lengths(t *testing.T) {
	begin := "from T where f = \""
	for _, s := range []string{"from T", begin + strings.Repeat("x", 100) + "\" limit 1"} {
		wide := s + strings.Repeat(" ", 65536-len(s))
		if q, err := query.Parse(wide); err != nil || q.Table != "T" {
			t.Errorf("a text of MaxText bytes: %v", err)
		}
		wantNoQuery(t, wide+" ", api.ErrMany)
	}
	whole := begin + strings.Repeat("x", 65536-len(begin)-1) + "\""
	if q, err := query.Parse(whole); err != nil || len(q.Conditions[0].Item.Text) != 65536-len(begin)-1 {
		t.Errorf("a long text in a text of MaxText bytes: %v", err)
	}
	wantNoQuery(t, whole+" ", api.ErrMany)
	for _, s := range []string{"", "x", "\"", "[", "`"} {
		wantNoQuery(t, strings.Repeat(s+"\x00", 65537), api.ErrMany)
		wantNoQuery(t, strings.Repeat("\x00", 65536-len(s))+s, api.ErrText)
	}
}

func TestP18_1_Words(t *testing.T) {
	for _, w := range reservedWords {
		wantNoQuery(t, "from "+w, api.ErrText)
		wantQuery(t, "from `"+w+"`", from(w))
		wantNoQuery(t, "from T where "+w+" = 1", api.ErrText)
		wantQuery(t, "from T where `"+w+"` = 1", from("T", where(w, 1, num(1))))
		wantNoQuery(t, "from T order by "+w, api.ErrText)
		wantQuery(t, "from T order by`"+w+"`", ordered(from("T"), w, false, 0))
		for _, name := range []string{w + "x", w + "9", w + "_", "_" + w, "x" + w, strings.ToUpper(w), strings.ToUpper(w[:1]) + w[1:], w + w} {
			wantQuery(t, "from "+name, from(name))
			wantQuery(t, "from T where "+name+"=1", from("T", where(name, 1, num(1))))
			wantQuery(t, "from T order by "+name+" falling", ordered(from("T"), name, true, 0))
		}
	}
	for _, name := range []string{"_", "a", "Z", "_9", "z0", "__", "A_b9", strings.Repeat("n", 32), "a" + strings.Repeat("9", 31)} {
		wantQuery(t, "from "+name, from(name))
	}
	for _, name := range []string{strings.Repeat("n", 33), strings.Repeat("_", 100), "9", "9a", "a-b", "a.b", "é", "a\xff"} {
		wantNoQuery(t, "from "+name, api.ErrText)
		wantNoQuery(t, "from T order by "+name, api.ErrText)
		wantNoQuery(t, "from T where "+name+" = 1", api.ErrText)
	}
}

// A reserved word is one only as a word, and only in small letters.
func TestP18_1_ReservedWordsInOtherForms(t *testing.T) {
	s := "from T where f = null and g = true and h = false order by g falling limit 5"
	if _, err := query.Parse(s); err != nil {
		t.Fatal(err)
	}
	for _, w := range reservedWords {
		for _, other := range []string{strings.ToUpper(w), strings.ToUpper(w[:1]) + w[1:], "`" + w + "`", "\"" + w + "\"", w + "x", w[:len(w)-1]} {
			changed := strings.Replace(s, w, other, 1)
			if w == "null" || w == "true" || w == "false" {
				if other[0] == '"' {
					continue
				}
			}
			wantNoQuery(t, changed, api.ErrText)
		}
	}
}

func TestP18_1_QuotedNames(t *testing.T) {
	b := "`"
	for s, name := range map[string]string{
		"`a`": "a", "````": b, "``````": "``", "`a``b`": "a`b", "```a`": "`a", "`a```": "a`", "`9`": "9", "`a-b`": "a-b", "`\"`": "\"", "`\\`": "\\", "`\\x41`": "\\x41", "`[`": "[", "`!~`": "!~",
		b + strings.Repeat("n", 32) + b: strings.Repeat("n", 32), b + strings.Repeat("``", 32) + b: strings.Repeat(b, 32),
	} {
		wantQuery(t, "from "+s, from(name))
		wantQuery(t, "from"+s+"where"+s+"=1", from(name, where(name, 1, num(1))))
		wantQuery(t, "from"+s+"order by"+s+"limit 2", ordered(from(name), name, false, 2))
	}
	for _, s := range []string{
		"`", "``", "```", "`````", "`a", "a`", "`a``", "`a`b`", "``a`", "`a b`", "` `", "`a`x", "`a` `b`", "`a`9", "`a\x1f`", "`a\x7f`", "`a\x80`", "`\n`", "`é`", "'a'",
		b + strings.Repeat("n", 33) + b, b + strings.Repeat("``", 33) + b, strings.Repeat(b, 60000), strings.Repeat(b, 60001),
	} {
		wantNoQuery(t, "from "+s, api.ErrText)
		wantNoQuery(t, "from T where "+s+" = 1", api.ErrText)
		wantNoQuery(t, "from T order by "+s, api.ErrText)
		wantNoQuery(t, "from T order by "+s+" limit 1", api.ErrText)
	}
	for n := range 256 {
		s := "a" + string([]byte{byte(n)})
		switch {
		case n == '`':
			wantNoQuery(t, "from `"+s+"`", api.ErrText)
		case n > 0x20 && n < 0x7f:
			wantQuery(t, "from `"+s+"`", from(s))
		default:
			wantNoQuery(t, "from `"+s+"`", api.ErrText)
		}
	}
}

func TestP18_1_Numbers(t *testing.T) {
	for s, n := range map[string]int{"0": 0, "1": 1, "-1": -1, "9": 9, "10": 10, "-10": -10, "100": 100, "9223372036854775807": math.MaxInt, "-9223372036854775808": math.MinInt, "-9223372036854775807": math.MinInt + 1} {
		wantItem(t, s, num(n))
		wantQuery(t, "from T where f = "+s+"and g ="+s+"limit 1", ordered(from("T", where("f", 1, num(n)), where("g", 1, num(n))), "", false, 1))
	}
	for _, s := range []string{"-", "--1", "- 1", "-0", "-00", "00", "01", "-01", "007", "+1", "1.0", "1e3", "0x1", "1_0", "1 2", "1-", "1-2", "9223372036854775808", "-9223372036854775809", "18446744073709551616", strings.Repeat("9", 1000), "-" + strings.Repeat("9", 1000), strings.Repeat("0", 20), "1a", "1`and`", "1\"\"", "١"} {
		wantNoItem(t, s)
	}
}

func TestP18_1_Limits(t *testing.T) {
	for s, n := range map[string]int{"1": 1, "9": 9, "10": 10, "9223372036854775807": math.MaxInt} {
		wantQuery(t, "from T limit "+s, ordered(from("T"), "", false, n))
		wantQuery(t, "from T where f = 0 limit "+s, ordered(from("T", where("f", 1, num(0))), "", false, n))
		wantQuery(t, "from T order by f limit "+s, ordered(from("T"), "f", false, n))
		wantQuery(t, "from T order by f falling limit "+s+" ", ordered(from("T"), "f", true, n))
	}
	for _, s := range []string{"", "0", "-0", "-1", "01", "00", "-", "a", "\"1\"", "`1`", "[1]", "null", "true", "1 1", "1 limit 1", "1 falling", "1 order by f", "1 where f = 1", "9223372036854775808", "1,", "=1", "1x"} {
		wantNoQuery(t, "from T limit "+s, api.ErrText)
	}
	wantNoQuery(t, "from T limit1", api.ErrText)
	wantNoQuery(t, "from T limit limit 1", api.ErrText)
}

func TestP18_1_Texts(t *testing.T) {
	for s, want := range map[string]string{
		`""`: "", `" "`: " ", `"a b"`: "a b", `"\""`: `"`, `"\\"`: `\`, `"\\\""`: `\"`, `"\\x41"`: `\x41`, `"\x41"`: "A", `"\x4a\x4A"`: "JJ", `"\xff\xFF\xfF\xFf"`: "\xff\xff\xff\xff", `"\x00"`: "\x00", `"\x22"`: `"`, `"\x5c"`: `\`, `"\x414"`: "A4",
		"\"`\"": "`", `"[1, 2]"`: "[1, 2]", `"from"`: "from", `"~!"`: "~!", `"'"`: "'",
	} {
		wantItem(t, s, text(want))
	}
	for _, s := range []string{`"`, `"a`, `"\"`, `"\`, `"\x"`, `"\x4"`, `"\x4`, `"\x41`, `"\xg0"`, `"\x0g"`, `"\x +"`, `"\x+1"`, `"\x-1"`, `"\x_1"`, `"\X41"`, `"\n"`, `"\q"`, `"\ "`, `"\'"`, `"\0"`, `"\u0041"`, "\"\\\x00\"", "\"\n\"", "\"\t\"", "\"\x1f\"", "\"\x7f\"", "\"\x80\"", "\"é\"", `""a`, `"a""b"`, `"a" "b"`, `'a'`} {
		wantNoItem(t, s)
	}
	for n := range 256 {
		s := string([]byte{byte(n)})
		if n == '"' || n == '\\' {
			wantItem(t, `"\`+s+`"`, text(s))
			wantNoItem(t, `"a`+s+`"`)
			continue
		}
		if n >= 0x20 && n <= 0x7e {
			wantItem(t, `"`+s+`"`, text(s))
			wantItem(t, `"a`+s+s+`"`, text("a"+s+s))
		} else {
			wantNoItem(t, `"`+s+`"`)
		}
		wantNoItem(t, `"\`+s+`"`)
		wantItem(t, fmt.Sprintf(`"\x%02x"`, n), text(s))
		wantItem(t, fmt.Sprintf(`"\x%02X\x%02x"`, n, n), text(s+s))
		isHex := strings.Contains("0123456789abcdefABCDEF", s)
		for _, form := range []string{`"\x` + s + `0"`, `"\x0` + s + `"`} {
			if _, err := query.Parse("from T where f = " + form); (err == nil) != isHex || err != nil && err != api.ErrText {
				t.Errorf("%q: %v", form, err)
			}
		}
	}
}

func TestP18_1_WordsAsItems(t *testing.T) {
	wantItem(t, "null", null())
	wantItem(t, "true", flag(1))
	wantItem(t, "false", flag(0))
	for _, s := range []string{"from", "where", "and", "order", "by", "falling", "limit", "f", "Null", "TRUE", "`null`", "`a`", "=", ",", "]", "nul", "nulll", "null null", "not true", "-null"} {
		wantNoItem(t, s)
	}
}

func TestP18_1_Signs(t *testing.T) {
	for n := 1; n <= 5; n++ {
		for _, form := range []string{"f%s1", "f %s1", "f%s 1", "f   %s   1", "`f`%s1"} {
			wantQuery(t, "from T where "+strings.Replace(form, "%s", signTexts[n], 1), from("T", where("f", n, num(1))))
		}
		wantQuery(t, "from T where f"+signTexts[n]+"-1", from("T", where("f", n, num(-1))))
		wantQuery(t, "from T where f"+signTexts[n]+"\"\"and g"+signTexts[n]+"[]", from("T", where("f", n, text("")), where("g", n, listOf())))
	}
	for _, s := range []string{"", "==", "<<", ">>", "<>", "><", "=<", "=>", "< =", "> =", "<==", ">==", "=!", "!=", "!", "<=>", "-", "+", ":=", "~", "is", "in", "like"} {
		wantNoQuery(t, "from T where f "+s+" 1", api.ErrText)
		wantNoQuery(t, "from T where f"+s+"1", api.ErrText)
	}
}

func TestP18_1_Lists(t *testing.T) {
	sixteen := strings.Repeat("1, ", 15) + "1"
	var l []api.Item
	for range 16 {
		l = append(l, num(1))
	}
	for s, want := range map[string]api.Item{
		"[]": listOf(), "[ ]": listOf(), "[1]": listOf(num(1)), "[1,2]": listOf(num(1), num(2)), "[ 1 , 2 ]": listOf(num(1), num(2)), "[[]]": listOf(listOf()), "[[],[]]": listOf(listOf(), listOf()),
		"[null,true,false,\"\",-1]": listOf(null(), flag(1), flag(0), text(""), num(-1)), "[[1],2,[3,[4]]]": listOf(listOf(num(1)), num(2), listOf(num(3), listOf(num(4)))), "[" + sixteen + "]": listOf(l...), "[\"a,b]\"]": listOf(text("a,b]")), "[[[]]]": deep(3),
	} {
		wantItem(t, s, want)
	}
	wantQuery(t, "from T where f = [[[[]]]]", from("T", where("f", 1, deep(4))))
	wantQuery(t, "from T where f = [[[[1],[\"\"]]]]", from("T", where("f", 1, listOf(listOf(listOf(listOf(num(1)), listOf(text(""))))))))
	for _, s := range []string{"[", "]", "[1", "1]", "[1,", "[1,]", "[,1]", "[,]", "[1,,2]", "[1 2]", "[[1]", "[1]]", "[]]", "[][]", "[] []", "[a]", "[from]", "[=]", "[`a`]", "[1;2]", "(1)", "{1}", "[[[[[]]]]]", "[1, [[[[]]]]]", "[" + sixteen + ", 1]", "[[" + sixteen + ", 1]]", strings.Repeat("[", 20) + strings.Repeat("]", 20), strings.Repeat("[", 30000) + strings.Repeat("]", 30000), strings.Repeat("[", 60000), strings.Repeat("[1,", 15000), "[" + strings.Repeat("1,", 30000) + "1]"} {
		wantNoItem(t, s)
	}
}

// nest is a list that holds another text so many times.
func nest(s string, n int) string {
	return "[" + strings.TrimSuffix(strings.Repeat(s+",", n), ",") + "]"
}

// Items whose texts are short, but of which tuple.Pack makes more than MaxText bytes.
func TestP18_1_ItemsThatAreTooLongToBePacked(t *testing.T) {
	thousands := nest(nest(nest(nest("1", 16), 16), 16), 1)
	if len(thousands) > 65000 {
		t.Fatal(len(thousands))
	}
	wantQueryRead := func(s string, ok bool) {
		t.Helper()
		_, err := query.Parse("from T where f=" + s)
		if ok && err != nil || !ok && err != api.ErrText {
			t.Errorf("%.50q of %d bytes: %v", s, len(s), err)
		}
	}
	wantQueryRead(thousands, true) // 4096 numbers of nine bytes each
	wantQueryRead(nest(nest(nest(nest("1", 16), 16), 16), 2), false)
	// 7255 numbers, and lists around them: from 65536 bytes on to more.
	row := nest(nest(nest("1", 16), 16), 16)
	for texts, ok := range map[int]bool{27500: true, 28000: true, 28500: false, 29000: false} {
		wantQueryRead("["+row+",\""+strings.Repeat("x", texts)+"\"]", ok)
	}
}

func TestP18_1_TheOrderOfTheParts(t *testing.T) {
	for _, s := range []string{
		"T", "where f = 1", "from T from T", "from T T", "from T, S", "from T where f = 1 where g = 1", "from T where f = 1 g = 1", "from T where f = 1, g = 1", "from T where f = 1 and", "from T where and f = 1", "from T where f = 1 and and g = 1", "from T where f = 1 or g = 1",
		"from T and f = 1", "from T order by f where f = 1", "from T order by f order by g", "from T order by f, g", "from T order by f falling falling", "from T falling", "from T order falling by f", "from T order by falling", "from T order by f rising", "from T by f", "from T order f", "from T orderby f", "from T limit 1 order by f", "from T limit 1 where f = 1", "from T limit 1 falling",
		"from T where", "from T where f", "from T where f =", "from T where = 1", "from T where f 1", "from T where 1 = f", "from T where f = f", "from T where f = 1 limit", "from T where f = 1 order", "from T where f = 1 order by", "from \"T\"", "from [T]", "from null", "from 1", "from -",
		"from T;", "from T x", "from T 1", "from T \"\"", "from T `x`", "from T []", "from T ,", "from T =", "from T limit 1 x", "from T order by f x", "from T where f = 1 x", "from T -", "from T \"", "from T `", "from T \\", "from T\x00", "\x00from T", "from T\n", "from\tT", "\rfrom T", "from T#",
		"from T where (f = 1)", "from T where not f = 1", "select T", "fromT", "from Twhere f = 1", "from T wheref = 1", "from T where f = 1 andg = 1", "from T where f = nulland g = 1", "from T order byf",
	} {
		wantNoQuery(t, s, api.ErrText)
	}
	one := where("f", 1, num(1))
	for s, q := range map[string]api.Query{
		"from T where f = 1 order by f": ordered(from("T", one), "f", false, 0), "from T where f = 1and f = 1order by f limit 1": ordered(from("T", one, one), "f", false, 1), "from T where f = 1limit 1": ordered(from("T", one), "", false, 1), "from T where f=[]order by f": ordered(from("T", where("f", 1, listOf())), "f", false, 0),
		"from T where f=\"\"limit 2": ordered(from("T", where("f", 1, text(""))), "", false, 2), "from where_ where from_ = 1": from("where_", where("from_", 1, num(1))),
	} {
		wantQuery(t, s, q)
	}
}

// Every byte between, ahead of and behind tokens: only the blank is let go.
func TestP18_1_BytesBetweenTokens(t *testing.T) {
	for n := range 256 {
		b := string([]byte{byte(n)})
		for _, form := range []string{"from%sT", "from T%s", "%sfrom T", "from T where f %s = 1", "from T where f = %s 1", "from T limit %s 1", "from T where f = [1%s]", "from T%s where f = 1"} {
			s := strings.Replace(form, "%s", b, 1)
			l, ok := marks(s)
			if want := ok && isQuery(l); want {
				q, err := query.Parse(s)
				if err != nil || !slices.Equal(mustMarks(t, textOf(q)), l) {
					t.Errorf("%q: %v", s, err)
				}
			} else {
				wantNoQuery(t, s, api.ErrText)
			}
		}
	}
}

func mustMarks(t *testing.T, s string) []mark {
	t.Helper()
	l, ok := marks(s)
	if !ok {
		t.Fatalf("%q has no tokens", s)
	}
	return l
}

// judged holds what is read of a text against its tokens; it tells if it is a query.
func judged(t *testing.T, s string) bool {
	t.Helper()
	l, ok := marks(s)
	if !ok || !isQuery(l) {
		wantNoQuery(t, s, api.ErrText)
		return false
	}
	q, err := query.Parse(s)
	if err != nil || plainFault(q) != nil || !slices.Equal(mustMarks(t, textOf(q)), l) {
		t.Errorf("Parse(%q) = %q, %v", s, fmt.Sprint(q), err)
	}
	return true
}

// All sequences of up to five tokens behind a table's name.
func TestP18_1_AllShortSequencesOfTokens(t *testing.T) {
	t.Parallel()
	alphabet := []string{"where", "f", "=", "1", "and", "order", "by", "falling", "limit", "[", "]", ","}
	queries := 0
	var try func(s string, left int)
	try = func(s string, left int) {
		if judged(t, s) {
			queries++
		}
		if left == 0 || t.Failed() {
			return
		}
		for _, a := range alphabet {
			try(s+" "+a, left-1)
		}
	}
	try("from T", 4)
	for _, s := range []string{"from T where f = 1", "from T where f = [1", "from T order by f", "from T where f = 1 and f = 1"} {
		try(s, 4)
	}
	if queries < 20 {
		t.Errorf("only %d of them are queries", queries)
	}
}

// mutated is a text with a byte or a piece of it changed.
func mutated(r *rand.Rand, s string) string {
	at := r.Intn(len(s) + 1)
	end := min(len(s), at+1+r.Intn(3))
	const bytes = "`\"\\ -09afx_[],<>=\x00\x1f\x7f\xffA"
	b := string(bytes[r.Intn(len(bytes))])
	switch r.Intn(6) {
	case 0:
		return s[:at] + s[end:]
	case 1:
		return s[:at] + b + s[at:]
	case 2:
		return s[:at] + b + s[end:]
	case 3:
		return s[:end] + s[at:]
	case 4:
		return s[:at] + " " + s[at:]
	}
	from := r.Intn(len(s) + 1)
	return s[:at] + s[from:min(len(s), from+r.Intn(8))] + s[at:]
}

// Texts by chance, held against their tokens.
func TestP18_1_Runs(t *testing.T) {
	t.Parallel()
	r := newRand(1)
	queries, others := 0, 0
	for range 40000 {
		s := blanked(pieces(randomQuery(r)), func() int { return r.Intn(2) })
		for range r.Intn(4) {
			s = mutated(r, s)
		}
		if len(s) > 0 && judged(t, s) {
			queries++
		} else {
			others++
		}
		if t.Failed() {
			return
		}
	}
	if queries < 10000 || others < 5000 {
		t.Errorf("%d queries, %d others", queries, others)
	}
}

// wantText holds that a query is written so.
func wantText(t *testing.T, q api.Query, want string) {
	t.Helper()
	if s, err := query.Print(q); s != want || err != nil {
		t.Errorf("Print(%.90q) = %.200q, %v, want %.200q", fmt.Sprint(q), s, err, want)
	}
}

func wantNoText(t *testing.T, q api.Query, want error) {
	t.Helper()
	if s, err := query.Print(q); s != "" || err != want {
		t.Errorf("Print(%.90q) = %.200q, %v, want %v", fmt.Sprint(q), s, err, want)
	}
}

func TestP18_2_Parts(t *testing.T) {
	one := where("f", 1, num(1))
	for s, q := range map[string]api.Query{
		"from T": from("T"), "from T where f = 1": from("T", one), "from T where f = 1 and f = 1 and f = 1": from("T", one, one, one), "from T order by f": ordered(from("T"), "f", false, 0), "from T order by f falling": ordered(from("T"), "f", true, 0),
		"from T limit 1": ordered(from("T"), "", false, 1), "from T order by f limit 10": ordered(from("T"), "f", false, 10), "from T where f = 1 order by g falling limit 9223372036854775807": ordered(from("T", one), "g", true, math.MaxInt),
		"from T where f = 1 and f < 1 and f <= 1 and f > 1 and f >= 1": from("T", one, where("f", 2, num(1)), where("f", 3, num(1)), where("f", 4, num(1)), where("f", 5, num(1))),
	} {
		wantText(t, q, s)
	}
	empty := from("T")
	empty.Conditions = []api.Condition{}
	wantText(t, empty, "from T")
}

func TestP18_2_Names(t *testing.T) {
	for name, s := range map[string]string{
		"T": "T", "_": "_", "_9": "_9", "aZ_0": "aZ_0", "fromage": "fromage", "From": "From", "NULL": "NULL", "9": "`9`", "9a": "`9a`", "a-b": "`a-b`", "`": "````", "``": "``````", "a`b": "`a``b`", "a`": "`a```", "\"": "`\"`", "\\": "`\\`", "~!": "`~!`",
		strings.Repeat("n", 32): strings.Repeat("n", 32), strings.Repeat("`", 32): strings.Repeat("`", 66),
	} {
		wantText(t, ordered(from(name, where(name, 1, num(1))), name, false, 0), "from "+s+" where "+s+" = 1 order by "+s)
	}
	for _, w := range reservedWords {
		wantText(t, ordered(from(w, where(w, 2, null())), w, true, 0), "from `"+w+"` where `"+w+"` < null order by `"+w+"` falling")
	}
	for n := 0x21; n < 0x7f; n++ {
		for _, name := range []string{string(rune(n)), "a" + string(rune(n)), string(rune(n)) + "a"} {
			wantText(t, from(name), "from "+nameText(name))
		}
	}
}

func TestP18_2_Items(t *testing.T) {
	all := make([]byte, 256)
	for n := range all {
		all[n] = byte(n)
	}
	for s, x := range map[string]api.Item{
		"null": null(), "false": flag(0), "true": flag(1), "0": num(0), "-1": num(-1), "9223372036854775807": num(math.MaxInt), "-9223372036854775808": num(math.MinInt), `""`: text(""), `"a b"`: text("a b"), `"\""`: text(`"`), `"\\"`: text(`\`), `"\x00\x1f ~"`: text("\x00\x1f ~"), `"\x7f\x80\xff"`: text("\x7f\x80\xff"),
		"\"`\"": text("`"), "[]": listOf(), "[[]]": listOf(listOf()), "[1]": listOf(num(1)), "[1, 2]": listOf(num(1), num(2)), `[null, [true, "x", []], -3]`: listOf(null(), listOf(flag(1), text("x"), listOf()), num(-3)), "[[[[]]]]": deep(4), "[[], []]": listOf(listOf(), listOf()),
	} {
		wantText(t, from("T", where("f", 1, x)), "from T where f = "+s)
		wantQuery(t, "from T where f = "+s, from("T", where("f", 1, x)))
	}
	wantText(t, from("T", where("f", 1, text(string(all)))), textOf(from("T", where("f", 1, text(string(all))))))
	for n := range 256 {
		q := from("T", where("f", 1, text(string(all[n:n+1]))))
		want := string(all[n : n+1])
		if n < 0x20 || n > 0x7e {
			want = fmt.Sprintf(`\x%02x`, n)
		} else if n == '"' || n == '\\' {
			want = `\` + want
		}
		wantText(t, q, `from T where f = "`+want+`"`)
	}
}

// wrongNames are no names, but for the first two.
var wrongNames = []string{"f", strings.Repeat("n", 32), "", " ", "a b", strings.Repeat("n", 33), "\x20", "\x7f", "a\x80", "\x00", "é", "f\n"}

// wrongItems are items of which some have no fault.
func wrongItems() []api.Item {
	row := listOf(slices.Repeat([]api.Item{text(strings.Repeat("x", 4000))}, 16)...)
	return []api.Item{
		num(1), null(), {}, {Kind: 6}, {Kind: -1}, flag(2), flag(-1), {Kind: api.ItemNull, Num: 1}, {Kind: api.ItemNum, Text: "x"}, {Kind: api.ItemText, Num: 1}, {Kind: api.ItemText, List: []api.Item{num(1)}}, {Kind: api.ItemList, Text: "x"}, {Kind: api.ItemNum, List: []api.Item{}},
		deep(4), deep(5), listOf(slices.Repeat([]api.Item{num(1)}, 16)...), listOf(slices.Repeat([]api.Item{num(1)}, 17)...), listOf(deep(4), flag(2)), listOf(flag(2), deep(4)), text(strings.Repeat("x", 65533)), text(strings.Repeat("x", 65534)), row, listOf(slices.Repeat([]api.Item{row}, 16)...),
	}
}

// wrongConditions are lists of conditions, with no fault, one or several.
func wrongConditions() [][]api.Condition {
	l := [][]api.Condition{nil, {where("f", 1, num(1)), where("f", 5, text("x"))}}
	for _, name := range wrongNames {
		l = append(l, []api.Condition{where(name, 1, num(1))}, []api.Condition{where(name, 1, deep(5))}, []api.Condition{where("f", 1, null()), where(name, 0, deep(5))})
	}
	for _, sign := range []int{0, 1, 2, 5, 6, -1, math.MinInt, math.MaxInt} {
		l = append(l, []api.Condition{where("f", sign, num(1))}, []api.Condition{where("f", sign, deep(5))}, []api.Condition{where("f", 1, deep(5)), where("f", sign, num(1))})
	}
	for _, x := range wrongItems() {
		l = append(l, []api.Condition{where("f", 1, x)}, []api.Condition{where("f", 1, x), where("f", 0, num(1))}, []api.Condition{where("f", 1, deep(5)), where("f", 1, x)}, []api.Condition{where("f", 1, x), where("f", 1, deep(5))})
	}
	return l
}

// wrongQueries are queries with no fault, one or several.
func wrongQueries() []api.Query {
	var l []api.Query
	for _, table := range []string{"T", "", "a b", strings.Repeat("n", 33)} {
		for _, conditions := range wrongConditions() {
			for _, order := range []string{"", "f", "a b", strings.Repeat("n", 33)} {
				for _, falling := range []bool{false, true} {
					for _, limit := range []int{0, 1, -1, math.MinInt} {
						l = append(l, ordered(from(table, conditions...), order, falling, limit))
					}
				}
			}
		}
	}
	for _, name := range wrongNames {
		l = append(l, from(name), ordered(from("T"), name, false, 0), ordered(from("T"), name, true, 0))
	}
	return l
}

func TestP18_2_TheFaultsInTheirOrder(t *testing.T) {
	t.Parallel()
	seen := map[error]int{}
	for _, q := range wrongQueries() {
		err := plainFault(q)
		seen[err]++
		if err != nil {
			wantNoText(t, q, err)
		} else if s := textOf(q); len(s) > 65536 {
			wantNoText(t, q, api.ErrMany)
		} else {
			wantText(t, q, s)
		}
	}
	for _, err := range []error{nil, api.ErrArg, api.ErrMany} {
		if seen[err] < 10 {
			t.Errorf("%v was met %d times", err, seen[err])
		}
	}
}

func TestP18_2_Lengths(t *testing.T) {
	long := func(n int) api.Query { return from("T", where("f", 1, text(strings.Repeat("x", n)))) }
	free := 65536 - len(textOf(long(0)))
	wantText(t, long(free), textOf(long(free)))
	wantNoText(t, long(free+1), api.ErrMany)
	for _, tail := range []api.Query{ordered(from("T"), "g", false, 0), ordered(from("T"), "g", true, 0), ordered(from("T"), "", false, 1), ordered(from("T"), "g`", true, 77)} {
		q := ordered(long(0), tail.Order, tail.Falling, tail.Limit)
		free := 65536 - len(textOf(q))
		q.Conditions = long(free).Conditions
		wantText(t, q, textOf(q))
		wantQuery(t, textOf(q), q)
		q.Conditions = long(free + 1).Conditions
		wantNoText(t, q, api.ErrMany)
		wantNoQuery(t, textOf(q), api.ErrMany)
		q.Limit = -1
		wantNoText(t, q, api.ErrArg)
	}
	// A short item whose text is long.
	wantNoText(t, from("T", where("f", 1, text(strings.Repeat("\x01", 16400)))), api.ErrMany)
	wantText(t, from("T", where("f", 1, text(strings.Repeat("\x01", 16300)))), "from T where f = \""+strings.Repeat("\\x01", 16300)+"\"")
}

// Many conditions, each of which is long: the answer comes while the text is not yet written whole.
func TestP18_2_ManyLongConditions(t *testing.T) {
	x := text(strings.Repeat("\x01", 65533))
	var q api.Query
	q.Table = "T"
	for range 2000 {
		q.Conditions = append(q.Conditions, where("f", 1, x))
	}
	wantNoText(t, q, api.ErrMany)
	q.Conditions[1999].Sign = 6
	wantNoText(t, q, api.ErrArg)
	q.Conditions = nil
	for range 5041 { // 65536 bytes, but for the last one
		q.Conditions = append(q.Conditions, where("f", 1, num(100)))
	}
	for len(textOf(q)) > 65536 {
		wantNoText(t, q, api.ErrMany)
		q.Conditions = q.Conditions[1:]
	}
	wantText(t, q, textOf(q))
	wantQuery(t, textOf(q), q)
}

func TestP18_3_ThereAndBack(t *testing.T) {
	t.Parallel()
	r := newRand(3)
	for range 20000 {
		q := randomQuery(r)
		s, err := query.Print(q)
		if err != nil || s != textOf(q) {
			t.Fatalf("Print = %q, %v, want %q", s, err, textOf(q))
		}
		wantQuery(t, s, q)
		for _, blanks := range []func() int{func() int { return 0 }, func() int { return r.Intn(3) }, func() int { return r.Intn(40) }} {
			wide := blanked(pieces(q), blanks)
			wantQuery(t, wide, q)
			read, err := query.Parse(wide)
			if again, err2 := query.Print(read); err != nil || err2 != nil || again != s {
				t.Fatalf("Print(Parse(%q)) = %q, %v, %v", wide, again, err, err2)
			}
		}
		if t.Failed() {
			return
		}
	}
}

func TestP18_3_OfWhatParseRead(t *testing.T) {
	for s, want := range map[string]string{
		"  from   T  ": "from T", "from`T`": "from T", "from`_`where`f`=1and`g`<=2": "from _ where f = 1 and g <= 2", "from T where f=[1 ,2]limit 3": "from T where f = [1, 2] limit 3", "from T where f = \"\\x41\\x4a\\x4A\\xFF\"": "from T where f = \"AJJ\\xff\"", "from T where f = \"\\x22\\x5c\\x20\"": "from T where f = \"\\\"\\\\ \"", "from `a``` order by `by`falling": "from `a``` order by `by` falling",
	} {
		q, err := query.Parse(s)
		must(t, err)
		wantText(t, q, want)
	}
	// The text that was read is short enough, the one that is written is not.
	tight := "from T where f=1" + strings.Repeat("and f=1", 9300)
	q, err := query.Parse(tight)
	if err != nil || len(q.Conditions) != 9301 {
		t.Fatalf("%d bytes: %d conditions, %v", len(tight), len(q.Conditions), err)
	}
	wantNoText(t, q, api.ErrMany)
}

// Blanks up to MaxText bytes at each place between two tokens.
func TestP18_3_FurtherBlanks(t *testing.T) {
	q := ordered(from("a`b", where("f", 3, listOf(num(1), listOf(text("a b")), null())), where("order", 5, text(""))), "g", true, 12)
	l := pieces(q)
	for i := range len(l) + 1 {
		s := strings.Join(l[:i], " ") + " " + strings.Join(l[i:], " ")
		for _, n := range []int{65536 - len(s), 65537 - len(s)} {
			wide := strings.Join(l[:i], " ") + strings.Repeat(" ", n+1) + strings.Join(l[i:], " ")
			if len(wide) <= 65536 {
				wantQuery(t, wide, q)
			} else {
				wantNoQuery(t, wide, api.ErrMany)
			}
		}
	}
}
