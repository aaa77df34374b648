package wire_test

import (
	"fmt"
	"math"
	"math/rand"
	"slices"
	"strings"
	"testing"

	"copse/api"
	"copse/wire"
)

// Answers by their kinds.

func status(s string) api.Answer             { return api.Answer{Kind: api.WireStatus, Text: s} }
func failure(s string) api.Answer            { return api.Answer{Kind: api.WireError, Text: s} }
func num(n int) api.Answer                   { return api.Answer{Kind: api.WireNum, Num: n} }
func bulk(s string) api.Answer               { return api.Answer{Kind: api.WireBulk, Text: s} }
func none() api.Answer                       { return api.Answer{Kind: api.WireNone} }
func list(l ...api.Answer) api.Answer        { return api.Answer{Kind: api.WireList, List: l} }
func times(n int, a api.Answer) []api.Answer { return slices.Repeat([]api.Answer{a}, n) }

// deep is an answer with so many lists around it.
func deep(d int, a api.Answer) api.Answer {
	for range d {
		a = list(a)
	}
	return a
}

// short tells an answer in few words.
func short(a api.Answer) string { return fmt.Sprintf("%.80q", fmt.Sprintf("%+v", a)) }

// wantEncode holds what Encode answers, and that Decode gives it back, whatever stands behind.
func wantEncode(t *testing.T, a api.Answer, want string, fault error) {
	t.Helper()
	got, err := wire.Encode(a)
	if got != want || err != fault {
		t.Fatalf("Encode(%s) = %.80q, %v, want %.80q, %v", short(a), got, err, want, fault)
	}
	if fault != nil {
		return
	}
	for _, behind := range []string{"", "\r\n", "$", ":1\r\n", "\x00", got} {
		b, n, err := wire.Decode(want + behind)
		if !same(a, b) || n != len(want) || err != nil {
			t.Fatalf("Decode(%.80q and %.20q) = %s, %d, %v, want %s, %d", want, behind, short(b), n, err, short(a), len(want))
		}
	}
}

// wantFirst holds which fault is found first, and that it is so within lists, too.
func wantFirst(t *testing.T, a api.Answer, fault error) {
	t.Helper()
	if plain := plainFault(a); plain != fault {
		t.Fatalf("the plain form finds %v in %s, want %v", plain, short(a), fault)
	}
	wantEncode(t, a, "", fault)
}

// wantSound holds the bytes of an answer that may be.
func wantSound(t *testing.T, a api.Answer) {
	t.Helper()
	if plain := plainFault(a); plain != nil {
		t.Fatalf("the plain form finds %v in %s", plain, short(a))
	}
	wantEncode(t, a, plainBytes(a), nil)
}

func TestP24_4_Kinds(t *testing.T) {
	for _, a := range []api.Answer{status(""), status("OK"), failure(""), failure("error lost"), num(0), num(7), bulk(""), bulk("a\r\n"), none(), list(), list(num(1), bulk("x")), {Kind: api.WireList, List: []api.Answer{}}} {
		wantSound(t, a)
		wantSound(t, list(a))
		wantSound(t, list(none(), a, none()))
		for _, kind := range []int{0, -1, 7, 8, 256, 257, -6, math.MinInt, math.MaxInt, 1<<32 + 1} {
			b := a
			b.Kind = kind
			wantFirst(t, b, api.ErrArg)
			wantFirst(t, list(b), api.ErrArg)
			wantFirst(t, list(none(), b, none()), api.ErrArg)
		}
	}
	wantFirst(t, api.Answer{}, api.ErrArg)
}

func TestP24_4_ForeignFields(t *testing.T) {
	own := map[int]string{1: "t", 2: "t", 3: "n", 4: "t", 5: "", 6: "l"}
	for kind := 1; kind <= 6; kind++ {
		for _, fields := range []string{"", "n", "t", "l", "nt", "nl", "tl", "ntl"} {
			for _, n := range []int{1, -1, math.MinInt, math.MaxInt} {
				a := api.Answer{Kind: kind}
				if strings.Contains(fields, "n") {
					a.Num = n
				}
				if strings.Contains(fields, "t") {
					a.Text = "t"
				}
				if strings.Contains(fields, "l") {
					a.List = times(1, none())
				}
				for d := range 4 {
					if foreign := strings.Trim(fields, own[kind]) != ""; foreign {
						wantFirst(t, deep(d, a), api.ErrArg)
					} else {
						wantSound(t, deep(d, a))
					}
				}
			}
		}
		// an empty list is no foreign one, and nor is an empty text; what stands in a list matters not, it is foreign at once
		wantSound(t, api.Answer{Kind: kind, List: []api.Answer{}})
		if kind != 6 {
			wantFirst(t, api.Answer{Kind: kind, List: times(2001, api.Answer{})}, api.ErrArg)
		}
	}
}

func TestP24_4_EveryByte(t *testing.T) {
	for b := range 256 {
		for _, s := range []string{string([]byte{byte(b)}), "a" + string([]byte{byte(b)}), string([]byte{byte(b)}) + "a", "\xff" + string([]byte{byte(b)}) + " "} {
			wantSound(t, bulk(s))
			wantSound(t, list(bulk(s)))
			for _, line := range []api.Answer{status(s), failure(s)} {
				if b < 0x20 || b == 0x7f {
					wantFirst(t, line, api.ErrArg)
					wantFirst(t, list(none(), line), api.ErrArg)
				} else {
					wantSound(t, line)
					wantSound(t, list(none(), line))
				}
			}
		}
	}
}

func TestP24_4_Sizes(t *testing.T) {
	for _, n := range []int{4095, 4096} {
		wantSound(t, status(strings.Repeat("s", n)))
		wantSound(t, failure(strings.Repeat("\xff", n)))
	}
	for _, n := range []int{4097, 4098, 65536, 100000} {
		wantFirst(t, status(strings.Repeat("s", n)), api.ErrMany)
		wantFirst(t, failure(strings.Repeat("s", n)), api.ErrMany)
	}
	for _, n := range []int{4097, 65535, 65536} {
		wantSound(t, bulk(strings.Repeat("s", n)))
		wantSound(t, list(num(1), bulk(strings.Repeat("\n", n))))
	}
	for _, n := range []int{65537, 65538, 131072} {
		wantFirst(t, bulk(strings.Repeat("s", n)), api.ErrMany)
		wantFirst(t, list(num(1), bulk(strings.Repeat("s", n))), api.ErrMany)
	}
	for _, n := range []int{0, 1, 9, 10, 99, 100, 999, 1000, 1001, 1999, 2000} {
		wantSound(t, list(times(n, none())...))
		wantSound(t, deep(3, list(times(n, num(-n))...)))
	}
	for _, n := range []int{2001, 2002, 4000, 65536} {
		for d := range 4 {
			wantFirst(t, deep(d, list(times(n, none())...)), api.ErrMany)
		}
	}
	wantSound(t, list(times(2000, list(times(5, list(bulk("x")))...))...))
}

func TestP24_4_Depth(t *testing.T) {
	for _, a := range []api.Answer{none(), num(5), bulk("x"), status("s"), failure("f")} {
		for d := range 5 {
			wantSound(t, deep(d, a))
		}
		for d := 5; d < 9; d++ {
			wantFirst(t, deep(d, a), api.ErrMany)
		}
	}
	wantSound(t, deep(3, list()))
	wantFirst(t, deep(4, list()), api.ErrMany)
	wantFirst(t, deep(5, list()), api.ErrMany)
	// beside others, and behind others that lie as deep
	wantSound(t, list(deep(3, num(1)), num(2), deep(3, num(3)), list()))
	wantFirst(t, list(deep(3, num(1)), num(2), deep(4, num(3))), api.ErrMany)
	wantFirst(t, deep(100000, none()), api.ErrMany)
}

// bad are answers with one fault each, that counts wherever they stand in up to three lists.
func bad() map[string]api.Answer {
	return map[string]api.Answer{
		"arg kind":          {Kind: 7},
		"arg foreign num":   {Kind: api.WireBulk, Num: 1},
		"arg foreign text":  {Kind: api.WireNum, Text: "x"},
		"arg foreign list":  {Kind: api.WireNone, List: times(1, none())},
		"arg list with num": {Kind: api.WireList, Num: 1},
		"arg status byte":   status("a\n"),
		"arg error byte":    failure("\x7f"),
		"many status":       status(strings.Repeat("a", 4097)),
		"many error":        failure(strings.Repeat("a", 4097)),
		"many bulk":         bulk(strings.Repeat("a", 65537)),
		"many elements":     list(times(2001, none())...),
		"many around":       deep(4, list()),
	}
}

// refusal is what the name of a bad answer says.
func refusal(name string) error {
	if strings.HasPrefix(name, "arg") {
		return api.ErrArg
	}
	return api.ErrMany
}

// Of two faults in a list that of the earlier element is found first, however deep it lies.
func TestP24_4_EarlierElementFirst(t *testing.T) {
	for name, a := range bad() {
		wantFirst(t, a, refusal(name))
		for _, b := range bad() {
			wantFirst(t, list(none(), a, num(1), b), refusal(name))
			wantFirst(t, list(list(list(num(1), a)), b), refusal(name))
			wantFirst(t, list(num(5), list(a), list(list(b))), refusal(name))
			wantFirst(t, list(list(none()), list(a, b)), refusal(name))
		}
	}
}

// Of two faults of one answer that is found first which going through it tells first.
func TestP24_4_FirstFault(t *testing.T) {
	wide, over := strings.Repeat("a", 4097), strings.Repeat("a", 65537)
	for _, c := range []struct {
		a     api.Answer
		fault error
	}{
		// kind or foreign field ahead of what the text is
		{api.Answer{Kind: 1, Num: 1, Text: wide}, api.ErrArg},
		{api.Answer{Kind: 2, List: times(1, none()), Text: wide}, api.ErrArg},
		{api.Answer{Kind: 4, Num: 1, Text: over}, api.ErrArg},
		{api.Answer{Kind: 4, List: times(1, none()), Text: over}, api.ErrArg},
		{api.Answer{Kind: 9, Text: over, List: times(2001, none())}, api.ErrArg},
		// a status's or an error's bytes ahead of how many they are
		{status(wide + "\n"), api.ErrArg},
		{status("\x7f" + wide), api.ErrArg},
		{failure(over + "\x00"), api.ErrArg},
		{failure("\x1f" + wide), api.ErrArg},
		// a list's foreign field ahead of its depth, its number and its elements
		{api.Answer{Kind: 6, Num: 1, List: times(2001, none())}, api.ErrArg},
		{api.Answer{Kind: 6, Text: "x", List: times(1, bulk(over))}, api.ErrArg},
		{deep(4, api.Answer{Kind: 6, Num: 1}), api.ErrArg},
		{deep(4, api.Answer{Kind: 6, Text: "x"}), api.ErrArg},
		// its depth and its number ahead of its elements
		{deep(4, list(api.Answer{})), api.ErrMany},
		{deep(4, list(status("\n"))), api.ErrMany},
		{list(times(2001, api.Answer{})...), api.ErrMany},
		{list(times(2001, status("\n"))...), api.ErrMany},
		{deep(3, list(times(2001, api.Answer{})...)), api.ErrMany},
		// within lists in lists: the outer one's number ahead of the inner one's faults
		{list(append(times(1, list(api.Answer{})), times(2000, none())...)...), api.ErrMany},
		{list(list(times(2001, none())...), api.Answer{}), api.ErrMany},
		{list(api.Answer{}, list(times(2001, none())...)), api.ErrArg},
	} {
		wantFirst(t, c.a, c.fault)
	}
}

func TestP24_5_Bytes(t *testing.T) {
	for _, c := range []struct {
		a    api.Answer
		want string
	}{
		{status("OK"), "+OK\r\n"}, {status(""), "+\r\n"}, {failure("error a b"), "-error a b\r\n"}, {failure(""), "-\r\n"},
		{num(0), ":0\r\n"}, {num(1), ":1\r\n"}, {num(-1), ":-1\r\n"}, {num(10), ":10\r\n"}, {num(math.MaxInt64), ":9223372036854775807\r\n"}, {num(math.MinInt64), ":-9223372036854775808\r\n"}, {num(math.MinInt64 + 1), ":-9223372036854775807\r\n"},
		{bulk(""), "$0\r\n\r\n"}, {bulk("\r\n"), "$2\r\n\r\n\r\n"}, {bulk("$-1\r\n"), "$5\r\n$-1\r\n\r\n"}, {bulk("0123456789"), "$10\r\n0123456789\r\n"}, {bulk("\xc3\xa9"), "$2\r\n\xc3\xa9\r\n"},
		{none(), "$-1\r\n"}, {list(), "*0\r\n"}, {list(list(), list(none())), "*2\r\n*0\r\n*1\r\n$-1\r\n"},
		{list(bulk("k"), bulk("v"), num(3), status("s"), failure("f")), "*5\r\n$1\r\nk\r\n$1\r\nv\r\n:3\r\n+s\r\n-f\r\n"},
		{deep(4, num(4)), "*1\r\n*1\r\n*1\r\n*1\r\n:4\r\n"},
	} {
		wantEncode(t, c.a, c.want, nil)
	}
	for n := 1; n > 0; n *= 3 {
		for _, m := range []int{n, -n, n - 1, 1 - n} {
			wantEncode(t, num(m), fmt.Sprintf(":%d\r\n", m), nil)
		}
	}
}

// anyAnswer is an answer around which d lists lie, with a fault now and then.
func anyAnswer(rnd *rand.Rand, d, oddity int) api.Answer {
	a := api.Answer{Kind: 1 + rnd.Intn(6)}
	switch a.Kind {
	case 1, 2:
		a.Text = strings.ToValidUTF8(strings.Trim(bytesOf(strings.Join(strings.Fields(latin(anyWord(rnd))), " ")), "\r\n"), "?")
		a.Text = strings.Map(func(r rune) rune {
			if r < 32 || r == 127 {
				return 'x'
			}
			return r
		}, a.Text)
		a.Text = a.Text[:min(len(a.Text), 4096)]
	case 3:
		a.Num = int(rnd.Uint64()) >> rnd.Intn(64)
	case 4:
		a.Text = anyWord(rnd)
	case 6:
		if d < 4 {
			for range rnd.Intn(7 - d) {
				a.List = append(a.List, anyAnswer(rnd, d+1, oddity))
			}
		} else {
			a.Kind = 5
		}
	}
	if oddity > 0 && rnd.Intn(oddity) == 0 {
		switch rnd.Intn(8) {
		case 0:
			a.Kind = rnd.Intn(9)
		case 1:
			a.Num++
		case 2:
			a.Text += string([]byte{byte(rnd.Intn(256))})
		case 3:
			a.List = append(a.List, none())
		case 4:
			a.Text += strings.Repeat("a", 4096)
		case 5:
			a.Text = strings.Repeat("a", 65537)
		case 6:
			a.List = times(2001, none())
		default:
			a = deep(5-d, a)
		}
	}
	return a
}

func TestP24_5_AnyAnswer(t *testing.T) {
	t.Parallel()
	rnd := rand.New(rand.NewSource(245))
	seen := map[error]int{}
	for i := range 4000 {
		a := anyAnswer(rnd, 0, []int{0, 3, 10, 40}[i%4])
		fault := plainFault(a)
		seen[fault]++
		if fault != nil {
			wantEncode(t, a, "", fault)
		} else {
			wantEncode(t, a, plainBytes(a), nil)
		}
	}
	if seen[nil] < 500 || seen[api.ErrMany] < 100 || seen[api.ErrArg] < 200 {
		t.Errorf("seen: %v", seen)
	}
}

func TestP24_7_AnswersOneBehindTheOther(t *testing.T) {
	rnd := rand.New(rand.NewSource(2471))
	for range 100 {
		var all []api.Answer
		s := ""
		for range rnd.Intn(20) {
			a := anyAnswer(rnd, 0, 0)
			b, err := wire.Encode(a)
			if err != nil {
				t.Fatal(short(a), err)
			}
			all, s = append(all, a), s+b
		}
		for i, want := range all {
			a, n, err := wire.Decode(s)
			if err != nil || !same(a, want) {
				t.Fatalf("answer %d: %s, %v, want %s", i, short(a), err, short(want))
			}
			s = s[n:]
		}
		if a, n, err := wire.Decode(s); !same(a, api.Answer{}) || n != 0 || err != api.ErrShort {
			t.Fatalf("behind the last one: %s, %d, %v", short(a), n, err)
		}
	}
}
