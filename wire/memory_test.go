package wire_test

import (
	"math/rand"
	"slices"
	"strings"
	"testing"
	"unsafe"

	"copse/api"
	"copse/wire"
)

// memory is texts that can be written over.
type memory struct{ all [][]byte }

func (m *memory) text(s string) string {
	if s == "" {
		return ""
	}
	p := []byte(s)
	m.all = append(m.all, p)
	return unsafe.String(&p[0], len(p))
}

func (m *memory) scrawl() {
	for _, p := range m.all {
		for i := range p {
			p[i] = '#'
		}
	}
}

// answer is an answer in memory of its own, with something in the room behind its lists.
func (m *memory) answer(a api.Answer) api.Answer {
	a.Text = m.text(a.Text)
	if a.List == nil {
		return a
	}
	wide := append(slices.Clone(a.List), bulk("behind"), list(num(1)))
	for i := range a.List {
		wide[i] = m.answer(wide[i])
	}
	a.List = wide[:len(a.List)]
	return a
}

// kept is an answer with all that lies in the room of its lists, in memory of its own.
func kept(a api.Answer) api.Answer {
	a.Text = strings.Clone(a.Text)
	var l []api.Answer
	for _, x := range a.List[:cap(a.List)] {
		l = append(l, kept(x))
	}
	a.List = l
	return a
}

// fill writes over the lists of an answer and the room behind them.
func fill(a api.Answer) {
	wide := a.List[:cap(a.List)]
	for i := range wide {
		fill(wide[i])
		wide[i] = api.Answer{Kind: 77, Num: -7, Text: "scrawl"}
	}
}

func TestP24_8_Feed(t *testing.T) {
	for _, s := range []string{command("get", "a", "\r\n") + "plain line\r\n", "x y", "*2\r\n$3\r\nab", command("whole") + "*1\r\n$5\r\nabc"} {
		var m memory
		r := wire.New()
		r.Feed(m.text(s))
		m.scrawl()
		r.Feed(m.text("de\r\nf\r\n"))
		m.scrawl()
		got, err := drain(t, r)
		want, fault := plainReading(s + "de\r\nf\r\n")
		if !slices.EqualFunc(got, want, slices.Equal) || err != fault {
			t.Errorf("%q: %q, %v, want %q, %v", s, got, err, want, fault)
		}
	}
}

// Words that were answered are their holder's: neither they nor the reader hear of the other, and what is fed is not changed.
func TestP24_8_Next(t *testing.T) {
	var m memory
	r := wire.New()
	s := m.text("a b c\r\n" + command("d", "e", "f") + "g h\r\n" + command("i", "j"))
	before := strings.Clone(s)
	r.Feed(s)
	want, _ := plainReading(before)
	var got [][]string
	for range want {
		words, ok, err := r.Next()
		if !ok || err != nil {
			t.Fatal(ok, err)
		}
		got = append(got, words)
		kept := slices.Clone(words)
		wide := append(words, "behind")
		for i := range wide {
			wide[i] = "scrawl"
		}
		copy(words, kept)
	}
	if s != before {
		t.Errorf("what was fed is changed: %q", s)
	}
	m.scrawl()
	r.Feed(command("more", "words") + "and more\r\n")
	if _, err := drain(t, r); err != nil {
		t.Fatal(err)
	}
	if !slices.EqualFunc(got, want, slices.Equal) {
		t.Errorf("%q, want %q", got, want)
	}
	for i := range got {
		for j := range got[i] {
			got[i][j] = "scrawl"
		}
		_ = append(got[i], "behind", "behind")
		for k := i + 1; k < len(got); k++ {
			if !slices.Equal(got[k], want[k]) {
				t.Fatalf("words %d: %q behind the writing over of %d", k, got[k], i)
			}
		}
	}
}

func TestP24_8_Command(t *testing.T) {
	for _, words := range [][]string{{"get", "a", ""}, {"\r\n"}, nil, slices.Repeat([]string{"w"}, 17), {strings.Repeat("w", most)}} {
		var m memory
		wide := make([]string, len(words)+2)
		for i, w := range append(slices.Clone(words), "behind", "more") {
			wide[i] = m.text(w)
		}
		before := make([]string, len(wide))
		for i := range wide {
			before[i] = strings.Clone(wide[i])
		}
		got, err := wire.Command(wide[:len(words)])
		again, errAgain := wire.Command(wide[:len(words)])
		if got != again || err != errAgain {
			t.Errorf("asked twice: %.60q, %v, and %.60q, %v", got, err, again, errAgain)
		}
		if !slices.Equal(wide, before) {
			t.Errorf("changed: %.60q, was %.60q", wide, before)
		}
		m.scrawl()
		if err == nil && got != command(words...) {
			t.Errorf("%.60q behind the writing over, want %.60q", got, command(words...))
		}
	}
}

func TestP24_8_Encode(t *testing.T) {
	answers := manyAnswers()
	for _, a := range bad() {
		answers = append(answers, a, list(num(1), a))
	}
	for _, a := range answers {
		var m memory
		b := m.answer(a)
		before := kept(b)
		got, err := wire.Encode(b)
		again, errAgain := wire.Encode(b)
		if got != again || err != errAgain {
			t.Errorf("asked twice: %.60q, %v, and %.60q, %v", got, err, again, errAgain)
		}
		if after := kept(b); !same(after, before) {
			t.Errorf("changed: %s, was %s", short(after), short(before))
		}
		m.scrawl()
		fill(b)
		if want := plainFault(a); err != want || err == nil && got != plainBytes(a) {
			t.Errorf("%.60q, %v behind the writing over of %s", got, err, short(a))
		}
	}
}

// lists are all lists of an answer.
func lists(a api.Answer) []*api.Answer {
	var l []*api.Answer
	if a.Kind == api.WireList && cap(a.List) > 0 {
		l = append(l, &a)
	}
	for _, x := range a.List {
		l = append(l, lists(x)...)
	}
	return l
}

func TestP24_8_Decode(t *testing.T) {
	for _, a := range append(manyAnswers(), list(list(num(1), num(2), num(3)), list(num(4), num(5)), list(list(num(6)), list(num(7)), list(bulk("x"), none(), list())))) {
		var m memory
		s := m.text(plainBytes(a) + "behind")
		before := strings.Clone(s)
		got, n, err := wire.Decode(s)
		other, m2, errOther := wire.Decode(s)
		if !same(got, other) || n != m2 || err != errOther {
			t.Errorf("asked twice: %s, %d, %v, and %s, %d, %v", short(got), n, err, short(other), m2, errOther)
		}
		if s != before {
			t.Errorf("changed: %.60q, was %.60q", s, before)
		}
		m.scrawl()
		if !same(got, a) {
			t.Errorf("%s behind the writing over, want %s", short(got), short(a))
		}
		fill(other)
		if !same(got, a) {
			t.Errorf("%s behind the writing over of another answer, want %s", short(got), short(a))
		}
		// each list has memory of its own, what lies behind it included
		all := lists(got)
		for i, x := range all {
			wide := x.List[:cap(x.List)]
			saved := slices.Clone(wide)
			for k := range wide {
				wide[k] = api.Answer{Kind: 77}
			}
			for k, y := range all {
				for _, e := range y.List {
					if k != i && e.Kind == 77 {
						t.Fatalf("%s: list %d shares memory with list %d", short(a), k, i)
					}
				}
			}
			copy(wide, saved)
		}
	}
}

// Whatever is handed in, every call ends and answers the same when it is asked again.
func TestP24_8_AnyInputs(t *testing.T) {
	rnd := rand.New(rand.NewSource(2481))
	for range 3000 {
		s := anyWord(rnd)
		if rnd.Intn(2) == 0 {
			s = string("+-:$*"[rnd.Intn(5)]) + s
		}
		a, n, err := wire.Decode(s)
		b, m, again := wire.Decode(s)
		if !same(a, b) || n != m || err != again {
			t.Fatalf("%.60q: %v, %v", s, err, again)
		}
		wantDecode(t, s)
	}
	for _, s := range []string{strings.Repeat("*2000\r\n", 1000), strings.Repeat("*1\r\n", 100000), "*2000\r\n*2000\r\n*2000\r\n*2000\r\n" + strings.Repeat("$-1\r\n", 10000), strings.Repeat("1", 1<<20), ":" + strings.Repeat("1", 1<<20), "+" + strings.Repeat("a", 1<<20)} {
		wantDecode(t, s)
		r := wire.New()
		r.Feed(s)
		r.Next()
	}
	wide := api.Answer{Kind: -1 << 63, Num: -1 << 63, Text: strings.Repeat("a", 1<<20), List: make([]api.Answer, 100000)}
	for range 3 {
		wide.List[0] = wide
		wantEncode(t, wide, "", api.ErrArg)
	}
	// a list that holds itself
	loop := api.Answer{Kind: api.WireList, List: make([]api.Answer, 1)}
	loop.List[0] = loop
	wantEncode(t, loop, "", api.ErrMany)
}

func TestExamples(t *testing.T) {
	if s, err := wire.Command([]string{"get", "a"}); s != "*2\r\n$3\r\nget\r\n$1\r\na\r\n" || err != nil {
		t.Errorf("%q, %v", s, err)
	}
	if s, err := wire.Command(nil); s != "" || err != api.ErrArg {
		t.Errorf("%q, %v", s, err)
	}
	if s, err := wire.Command(make([]string, 17)); s != "" || err != api.ErrMany {
		t.Errorf("%q, %v", s, err)
	}
	r := wire.New()
	r.Feed("*2\r\n$3\r\nget\r\n$1\r\na\r\n")
	wantNext(t, r, []string{"get", "a"}, true, nil)
	wantNext(t, r, nil, false, nil)
	r = wire.New()
	r.Feed("get  a\r\n\r\nx")
	wantNext(t, r, []string{"get", "a"}, true, nil)
	wantNext(t, r, nil, false, nil)
	for _, c := range []struct {
		s    string
		want error
	}{
		{"*0\r\n", api.ErrText}, {"*17\r\n", api.ErrMany}, {"*01", api.ErrText}, {"*x", api.ErrText}, {"*1\r\nx", api.ErrText}, {"*1\r\n$65537\r\n", api.ErrMany},
		{"a\n", api.ErrText}, {"a\rb", api.ErrText}, {"a\x00", api.ErrText}, {strings.Repeat("a", 4097), api.ErrMany},
	} {
		r := wire.New()
		r.Feed(c.s)
		wantNext(t, r, nil, false, c.want)
	}
	r = wire.New()
	r.Feed(strings.Repeat("a", 4096) + "\r")
	wantNext(t, r, nil, false, nil)
	r.Feed("\n")
	wantNext(t, r, []string{strings.Repeat("a", 4096)}, true, nil)
	wantEncode(t, num(-5), ":-5\r\n", nil)
	wantEncode(t, none(), "$-1\r\n", nil)
	wantEncode(t, list(bulk("a"), none()), "*2\r\n$1\r\na\r\n$-1\r\n", nil)
	if a, n, err := wire.Decode("$1\r\na\r\nx"); !same(a, bulk("a")) || n != 7 || err != nil {
		t.Error(short(a), n, err)
	}
	wantError(t, "$1\r\na", api.ErrShort)
	wantError(t, "$01", api.ErrText)
	wantError(t, ":-0\r\n", api.ErrText)
	wantError(t, "", api.ErrShort)
}
