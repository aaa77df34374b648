package leaf_test

import (
	"encoding/binary"
	"fmt"
	"math"
	"math/rand"
	"slices"
	"strings"
	"testing"

	"copse/api"
	"copse/leaf"
)

const bodyLen = 4072

func zeros(n int) string { return strings.Repeat("\x00", n) }

// filled is the text with zeros up to the end of a body.
func filled(text string) string { return text + zeros(bodyLen-len(text)) }

// pairs are of keys and values, in turns.
func pairs(texts ...string) []api.Pair {
	var l []api.Pair
	for i := 0; i < len(texts); i += 2 {
		l = append(l, api.Pair{Key: texts[i], Value: texts[i+1]})
	}
	return l
}

// keyed are pairs of these keys with unlike values.
func keyed(keys ...string) []api.Pair {
	var l []api.Pair
	for i, key := range keys {
		l = append(l, api.Pair{Key: key, Value: fmt.Sprint("value ", i)})
	}
	return l
}

// sized are rising pairs of these sizes, each of 7 to 960.
func sized(sizes ...int) []api.Pair {
	var l []api.Pair
	for i, n := range sizes {
		key := string(binary.BigEndian.AppendUint16(nil, uint16(i)))
		value := min(n-7, 700)
		l = append(l, api.Pair{Key: key + strings.Repeat("k", n-7-value), Value: strings.Repeat("v", value)})
	}
	return l
}

// plainCell is the cell of a pair, as the chapter's words make it, by the library.
func plainCell(p api.Pair) string {
	head := binary.BigEndian.AppendUint16([]byte{byte(len(p.Key))}, uint16(len(p.Value)))
	return string(head) + p.Key + p.Value
}

// laid is the body of some cells, whatever they are.
func laid(l ...string) string {
	var slots []byte
	end := 2 * len(l)
	for _, cell := range l {
		end += len(cell)
		slots = binary.BigEndian.AppendUint16(slots, uint16(end))
	}
	return filled(string(slots) + strings.Join(l, ""))
}

func plainBody(l []api.Pair) string {
	var texts []string
	for _, p := range l {
		texts = append(texts, plainCell(p))
	}
	return laid(texts...)
}

func plainSize(l []api.Pair) int {
	size := 0
	for _, p := range l {
		size += 5 + len(p.Key+p.Value)
	}
	return size
}

// plainCheck asks for each fault by itself, one after the other.
func plainCheck(l []api.Pair, root bool) error {
	for _, p := range l {
		if p.Key == "" || len(p.Key) > 255 || len(p.Value) > 700 {
			return api.ErrArg
		}
	}
	for i := range l {
		if i > 0 && strings.Compare(l[i-1].Key, l[i].Key) >= 0 {
			return api.ErrOrder
		}
	}
	if plainSize(l) > 4072 {
		return api.ErrMany
	}
	if len(l) == 0 || !root && plainSize(l) < 1556 {
		return api.ErrShort
	}
	return nil
}

// plainDecode takes what the slots and the lengths would say, and sees whether the body of that is the same.
func plainDecode(count int, body string) ([]api.Pair, bool) {
	if count < 1 || count > bodyLen/2 || len(body) != bodyLen {
		return nil, false
	}
	var l []api.Pair
	from := 2 * count
	for i := range count {
		to := int(binary.BigEndian.Uint16([]byte(body[2*i:])))
		if to < from+3 || to > bodyLen {
			return nil, false
		}
		cell := body[from:to]
		behind := min(3+int(cell[0]), len(cell))
		l = append(l, api.Pair{Key: cell[3:behind], Value: cell[behind:]})
		from = to
	}
	return l, plainCheck(l, true) == nil && plainBody(l) == body
}

func plainFind(l []api.Pair, key string) (int, bool) {
	for i, p := range l {
		if c := strings.Compare(p.Key, key); c >= 0 {
			return i, c == 0
		}
	}
	return len(l), false
}

// plainLeft is how many pairs go to the left: every place is tried.
func plainLeft(l []api.Pair) int {
	best, least := 0, math.MaxInt
	for i := 1; i < len(l); i++ {
		gap := plainSize(l[:i]) - plainSize(l[i:])
		if gap = max(gap, -gap); gap < least {
			best, least = i, gap
		}
	}
	return best
}

func randomText(r *rand.Rand, most int) string {
	text := make([]byte, r.Intn(most+1))
	r.Read(text)
	if r.Intn(4) == 0 {
		for i := range text {
			text[i] = "\x00\x01\xfe\xff"[text[i]&3]
		}
	}
	return string(text)
}

// randomPair may be.
func randomPair(r *rand.Rand, mostKey, mostValue int) api.Pair {
	return api.Pair{Key: randomText(r, mostKey-1) + string([]byte{byte(r.Intn(256))}), Value: randomText(r, mostValue)}
}

// randomPairs may be and rise, and are added as long as their size stays below room.
func randomPairs(r *rand.Rand, room int) []api.Pair {
	mostKey, mostValue := 1<<r.Intn(8), r.Intn(1<<r.Intn(10)+1)
	var l []api.Pair
	for range r.Intn(400) + 1 {
		p := randomPair(r, mostKey, min(mostValue, 700))
		place, found := plainFind(l, p.Key)
		if !found && plainSize(l)+plainSize([]api.Pair{p}) <= room {
			l = slices.Insert(l, place, p)
		}
	}
	return l
}

// wildPairs are few, with keys and values of which some may not be, often out of order.
func wildPairs(r *rand.Rand) []api.Pair {
	long := strings.Repeat("k", 256)
	keys := []string{"a", "b", "b\x00", "c", "\x00", "\xff", "\xff\xff", long[:255], "ab", "d", "e", "f", "g", "h", "i"}
	var l []api.Pair
	for range r.Intn(12) {
		l = append(l, api.Pair{Key: keys[r.Intn(len(keys))], Value: strings.Repeat("v", []int{0, 1, 300, 690, 699, 700}[r.Intn(6)])})
	}
	if r.Intn(2) == 0 {
		slices.SortFunc(l, func(a, b api.Pair) int { return strings.Compare(a.Key, b.Key) })
	}
	if r.Intn(2) == 0 {
		l = slices.CompactFunc(l, func(a, b api.Pair) bool { return a.Key == b.Key })
	}
	if len(l) > 0 && r.Intn(4) == 0 {
		l[r.Intn(len(l))] = api.Pair{Key: []string{"", long}[r.Intn(2)]}
	}
	if len(l) > 0 && r.Intn(5) == 0 {
		l[r.Intn(len(l))].Value = strings.Repeat("w", 701)
	}
	return l
}

// leaves are lists that may be a root, ordinary ones and those at the edges.
func leaves() [][]api.Pair {
	k, v := strings.Repeat("k", 255), strings.Repeat("v", 700)
	return [][]api.Pair{
		pairs("a", "1"), pairs("a", ""), pairs("a", "1", "bb", ""), pairs("a", "", "ab", "", "b", ""), pairs("\x00", "\x00"), pairs("\x00", "", "\x00\x00", "\x00\x00", "\xff", "\xff"),
		pairs(k, v), pairs(k, ""), pairs("k", v), pairs(k[:254], v[:699]), pairs(k[:128], v[:255], k[:129], v[:256], k[:200], v[:257]), pairs("a\x00", "", "a\x00\x00", ""), pairs(zeros(255), zeros(700)),
		sized(960, 960, 960, 960, 232), sized(960, 960, 960, 960, 231), sized(900, 656), sized(900, 655), sized(9), sized(slices.Repeat([]int{7}, 581)...), sized(slices.Repeat([]int{8}, 509)...), pairs("a", zeros(700), "b", zeros(3)),
	}
}

func wantCheck(t *testing.T, what string, l []api.Pair, root bool, want error) {
	t.Helper()
	if got := leaf.Check(l, root); got != want {
		t.Errorf("Check of %s, root %v: %v, want %v", what, root, got, want)
	}
}

// wantBoth asks for the same answer for a root and for another leaf.
func wantBoth(t *testing.T, what string, l []api.Pair, want error) {
	t.Helper()
	wantCheck(t, what, l, true, want)
	wantCheck(t, what, l, false, want)
}

func wantBody(t *testing.T, what string, l []api.Pair, want string) {
	t.Helper()
	got, err := leaf.Encode(l)
	if err != nil || len(got) != bodyLen {
		t.Fatalf("Encode of %s: %d bytes, %v, want a body", what, len(got), err)
	}
	for i := range got {
		if got[i] != want[i] {
			t.Fatalf("Encode of %s: byte %d is %d, want %d", what, i, got[i], want[i])
		}
	}
}

func wantNoBody(t *testing.T, what string, l []api.Pair, want error) {
	t.Helper()
	if got, err := leaf.Encode(l); got != "" || err != want || err == nil {
		t.Errorf("Encode of %s: %d bytes, %v, want none, %v", what, len(got), err, want)
	}
}

func wantRead(t *testing.T, what string, count int, body string, want []api.Pair) {
	t.Helper()
	got, err := leaf.Decode(count, body)
	if err != nil || len(want) != count || !slices.Equal(got, want) {
		t.Errorf("Decode of %s: %.99q, %v, want %.99q", what, got, err, want)
	}
}

func wantNotRead(t *testing.T, what string, count int, body string) {
	t.Helper()
	if got, err := leaf.Decode(count, body); len(got) != 0 || err != api.ErrText {
		t.Errorf("Decode of %s: %d pairs, %v, want none, ErrText", what, len(got), err)
	}
}

// wantAsPlain holds Decode against the chapter's words.
func wantAsPlain(t *testing.T, what string, count int, body string) {
	t.Helper()
	if want, ok := plainDecode(count, body); ok {
		wantRead(t, what, count, body, want)
	} else {
		wantNotRead(t, what, count, body)
	}
}

func wantPlace(t *testing.T, l []api.Pair, key string, place int, found bool) {
	t.Helper()
	if at, there := leaf.Find(l, key); at != place || there != found {
		t.Errorf("Find(%.99q, %.20q): %d, %v, want %d, %v", l, key, at, there, place, found)
	}
}

func wantSet(t *testing.T, l []api.Pair, key, value string, want []api.Pair) {
	t.Helper()
	if got := leaf.Set(l, key, value); !slices.Equal(got, want) {
		t.Errorf("Set(%.99q, %.20q, %.20q): %.99q, want %.99q", l, key, value, got, want)
	}
}

func wantDrop(t *testing.T, l []api.Pair, key string, want []api.Pair, found bool) {
	t.Helper()
	if got, there := leaf.Drop(l, key); there != found || !slices.Equal(got, want) {
		t.Errorf("Drop(%.99q, %.20q): %.99q, %v, want %.99q, %v", l, key, got, there, want, found)
	}
}

func wantCut(t *testing.T, what string, l []api.Pair, place int) {
	t.Helper()
	left, right, err := leaf.Cut(l)
	if err != nil || !slices.Equal(left, l[:place]) || !slices.Equal(right, l[place:]) {
		t.Errorf("Cut of %s: %d and %d pairs, %v, want %d and %d", what, len(left), len(right), err, place, len(l)-place)
	}
}

func wantNoCut(t *testing.T, what string, l []api.Pair, want error) {
	t.Helper()
	if left, right, err := leaf.Cut(l); len(left) != 0 || len(right) != 0 || err != want {
		t.Errorf("Cut of %s: %d and %d pairs, %v, want none, %v", what, len(left), len(right), err, want)
	}
}

func TestP7_1_Size(t *testing.T) {
	x := strings.Repeat("x", 70000)
	for i, c := range []struct {
		l    []api.Pair
		want int
	}{
		{nil, 0}, {[]api.Pair{}, 0}, {pairs("", ""), 5}, {pairs("a", ""), 6}, {pairs("", "a"), 6}, {pairs("a", "1", "bb", ""), 14}, {pairs("b", "", "a", "", "a", ""), 18}, {pairs("ä", "ö"), 9}, {pairs("\x00", "\x00\x00"), 8},
		{pairs(x[:255], x[:700]), 960}, {pairs(x[:256], x[:701]), 962}, {pairs(x, x), 140005}, {make([]api.Pair, 100000), 500000}, {slices.Repeat(pairs(x, x), 50000), 50000 * 140005},
	} {
		if got := leaf.Size(c.l); got != c.want {
			t.Errorf("Size of list %d: %d, want %d", i, got, c.want)
		}
	}
	r := rand.New(rand.NewSource(71))
	for range 300 {
		l := randomPairs(r, 10000)
		if got := leaf.Size(l); got != plainSize(l) {
			t.Errorf("Size(%.99q): %d, want %d", l, got, plainSize(l))
		}
	}
}

func TestP7_2_NoFault(t *testing.T) {
	for i, l := range leaves() {
		what := fmt.Sprintf("list %d", i)
		wantCheck(t, what, l, true, nil)
		wantCheck(t, what, l, false, plainCheck(l, false))
	}
}

func TestP7_2_Lengths(t *testing.T) {
	x := strings.Repeat("x", 70000)
	for _, key := range []int{1, 2, 127, 128, 254, 255} {
		for _, value := range []int{0, 1, 255, 256, 699, 700} {
			wantCheck(t, fmt.Sprintf("a key of %d and a value of %d", key, value), pairs(x[:key], x[:value]), true, nil)
		}
	}
	for _, c := range [][2]int{{0, 0}, {0, 700}, {256, 0}, {257, 1}, {512, 3}, {65536, 0}, {65537, 0}, {1, 701}, {255, 701}, {1, 702}, {1, 65536}, {1, 65537}, {0, 701}, {256, 701}, {70000, 70000}} {
		wantBoth(t, fmt.Sprintf("a key of %d and a value of %d", c[0], c[1]), pairs(x[:c[0]], x[:c[1]]), api.ErrArg)
	}
}

func TestP7_2_Order(t *testing.T) {
	rising := []string{"\x00", "\x00\x00", "\x00\x01", "\x00\xff", "\x01", "A", "a", "a\x00", "a\x00\xff", "aa", "ab", "b", "ba", "\x7f", "\x80", "\xc3", "\xc3\xa4", "\xfe", "\xff", "\xff\x00", "\xff\xff", "\xff\xff\xff"}
	wantCheck(t, "all keys", keyed(rising...), true, nil)
	for i, a := range rising {
		for j, b := range rising {
			want := api.ErrOrder
			if i < j {
				want = nil
			}
			wantCheck(t, fmt.Sprintf("%q, %q", a, b), keyed(a, b), true, want)
		}
	}
	for i := range len(rising) - 1 {
		keys := slices.Clone(rising)
		keys[i], keys[i+1] = keys[i+1], keys[i]
		wantBoth(t, fmt.Sprintf("keys out of order at %d", i), keyed(keys...), api.ErrOrder)
		keys[i] = keys[i+1]
		wantBoth(t, fmt.Sprintf("equal keys at %d", i), keyed(keys...), api.ErrOrder)
	}
	wantBoth(t, "a key that comes again far behind", keyed("a", "b", "c", "a"), api.ErrOrder)
	wantBoth(t, "the same pair twice", pairs("a", "1", "a", "1"), api.ErrOrder)
}

func TestP7_2_Sizes(t *testing.T) {
	for _, c := range []struct {
		sizes []int
		root  error
		other error
	}{
		{nil, api.ErrShort, api.ErrShort}, {[]int{7}, nil, api.ErrShort}, {[]int{960}, nil, api.ErrShort}, {[]int{900, 655}, nil, api.ErrShort}, {[]int{900, 656}, nil, nil}, {[]int{655, 900}, nil, api.ErrShort}, {[]int{656, 900}, nil, nil}, {[]int{900, 657}, nil, nil},
		{[]int{900, 900, 900, 900, 471}, nil, nil}, {[]int{900, 900, 900, 900, 472}, nil, nil}, {[]int{900, 900, 900, 900, 473}, api.ErrMany, api.ErrMany}, {[]int{960, 960, 960, 960, 233}, api.ErrMany, api.ErrMany}, {slices.Repeat([]int{960}, 9), api.ErrMany, api.ErrMany},
		{slices.Repeat([]int{7}, 222), nil, api.ErrShort}, {slices.Repeat([]int{7}, 223), nil, nil}, {slices.Repeat([]int{7}, 581), nil, nil}, {slices.Repeat([]int{7}, 582), api.ErrMany, api.ErrMany}, {slices.Repeat([]int{8}, 509), nil, nil}, {slices.Repeat([]int{7}, 60000), api.ErrMany, api.ErrMany},
	} {
		what := fmt.Sprintf("%d pairs, %d in all", len(c.sizes), plainSize(sized(c.sizes...)))
		wantCheck(t, what, sized(c.sizes...), true, c.root)
		wantCheck(t, what, sized(c.sizes...), false, c.other)
	}
	wantBoth(t, "an empty list", []api.Pair{}, api.ErrShort)
}

// Of several faults one counts, wherever it stands in the list.
func TestP7_2_SeveralFaults(t *testing.T) {
	long, v := strings.Repeat("k", 256), strings.Repeat("v", 701)
	many := sized(900, 900, 900, 900, 900)
	for _, bad := range []api.Pair{{}, {Value: "v"}, {Key: long}, {Key: "zz", Value: v}} {
		for _, l := range [][]api.Pair{pairs("b", "", "a", ""), pairs("a", "", "a", ""), pairs("a", "", "b", ""), many, append(slices.Clone(many), many[0]), append(many[:1:1], many...)} {
			for at := range len(l) + 1 {
				wantBoth(t, fmt.Sprintf("a bad pair at %d of %d", at, len(l)+1), slices.Insert(slices.Clone(l), at, bad), api.ErrArg)
			}
		}
	}
	wantBoth(t, "a bad pair ahead, out of order behind", pairs("", "", "b", "", "a", ""), api.ErrArg)
	wantBoth(t, "out of order ahead, a bad pair behind", pairs("b", "", "a", "", "", ""), api.ErrArg)
	wantBoth(t, "a bad pair that is too long for a body", pairs("a", zeros(5000)), api.ErrArg)
	wantBoth(t, "too many, out of order behind", append(slices.Clone(many), many[4]), api.ErrOrder)
	wantBoth(t, "too many, out of order ahead", append(many[:1:1], many...), api.ErrOrder)
	wantBoth(t, "too few, out of order", pairs("b", "", "a", ""), api.ErrOrder)
	r := rand.New(rand.NewSource(72))
	seen := map[error]int{}
	for range 5000 {
		l := wildPairs(r)
		for _, root := range []bool{true, false} {
			want := plainCheck(l, root)
			seen[want]++
			wantCheck(t, fmt.Sprintf("%.99q", l), l, root, want)
		}
	}
	for _, err := range []error{nil, api.ErrArg, api.ErrOrder, api.ErrMany, api.ErrShort} {
		if seen[err] < 100 {
			t.Errorf("only %d of the lists were for %v", seen[err], err)
		}
	}
}

func TestP7_3_EveryByte(t *testing.T) {
	for i, l := range leaves() {
		wantBody(t, fmt.Sprintf("list %d", i), l, plainBody(l))
	}
	r := rand.New(rand.NewSource(73))
	for range 500 {
		if l := randomPairs(r, bodyLen); len(l) > 0 {
			wantBody(t, fmt.Sprintf("%.99q", l), l, plainBody(l))
		}
	}
}

func TestP7_3_Lengths(t *testing.T) {
	k, v := strings.Repeat("k", 255), strings.Repeat("v", 700)
	wantBody(t, "long texts", pairs(k, v), filled("\x03\xc0\xff\x02\xbc"+k+v))
	wantBody(t, "256 bytes of a value", pairs("a", v[:256], "b", ""), filled("\x01\x08\x01\x0c\x01\x01\x00a"+v[:256]+"\x01\x00\x00b"))
	wantBody(t, "255 bytes of a value", pairs("ab", v[:255]), filled("\x01\x06\x02\x00\xffab"+v[:255]))
}

func TestP7_3_Refusals(t *testing.T) {
	wantNoBody(t, "none", nil, api.ErrShort)
	wantNoBody(t, "an empty list", []api.Pair{}, api.ErrShort)
	wantNoBody(t, "an empty key", pairs("", "x"), api.ErrArg)
	wantNoBody(t, "a key of 256", pairs(strings.Repeat("k", 256), ""), api.ErrArg)
	wantNoBody(t, "a value of 701", pairs("a", strings.Repeat("v", 701)), api.ErrArg)
	wantNoBody(t, "a value of 65537", pairs("a", strings.Repeat("v", 65537)), api.ErrArg)
	wantNoBody(t, "keys that fall", pairs("b", "", "a", ""), api.ErrOrder)
	wantNoBody(t, "equal keys", pairs("a", "1", "a", "2"), api.ErrOrder)
	wantNoBody(t, "4073 bytes", sized(960, 960, 960, 960, 233), api.ErrMany)
	wantNoBody(t, "too many and out of order", append(sized(960, 960, 960, 960, 960), sized(9)...), api.ErrOrder)
	wantNoBody(t, "out of order and a bad pair", pairs("b", "", "a", "", "", ""), api.ErrArg)
	r := rand.New(rand.NewSource(74))
	for range 2000 {
		l := wildPairs(r)
		if want := plainCheck(l, true); want != nil {
			wantNoBody(t, fmt.Sprintf("%.99q", l), l, want)
		} else {
			wantBody(t, fmt.Sprintf("%.99q", l), l, plainBody(l))
		}
	}
}

func TestP7_4_Pairs(t *testing.T) {
	for i, l := range leaves() {
		wantRead(t, fmt.Sprintf("list %d", i), len(l), plainBody(l), l)
	}
}

func TestP7_4_OtherCounts(t *testing.T) {
	far := []int{-1, -2, math.MinInt, math.MinInt + 1, -1 << 62, -1 << 32, 0, 815, 1357, 2036, 2037, 4072, 65536, 1<<32 + 1, 1<<62 + 1, math.MaxInt}
	for i, l := range leaves() {
		body := plainBody(l)
		for _, count := range append(far, len(l)-1, len(l)+1, 2*len(l)) {
			wantNotRead(t, fmt.Sprintf("list %d by the count %d", i, count), count, body)
		}
	}
	for count := -1; count <= 2037; count++ {
		wantNotRead(t, fmt.Sprintf("zeros by the count %d", count), count, zeros(bodyLen))
	}
}

func TestP7_4_OtherLengths(t *testing.T) {
	for i, l := range leaves() {
		body := plainBody(l)
		for _, other := range []string{"", body[:1], body[:2*len(l)], body[:bodyLen-1], body[1:], body + "\x00", body + "x", "\x00" + body, body + body} {
			wantNotRead(t, fmt.Sprintf("list %d in %d bytes", i, len(other)), len(l), other)
		}
	}
	for _, n := range []int{0, 1, 4071, 4073, 4096, 1 << 20} {
		for _, count := range []int{-1, 0, 1, 2} {
			wantNotRead(t, fmt.Sprintf("%d zeros by the count %d", n, count), count, zeros(n))
		}
	}
}

func TestP7_4_CellsOfNoPair(t *testing.T) {
	k, v := strings.Repeat("k", 256), strings.Repeat("v", 2000)
	for _, cell := range []string{
		"", "\x01", "\x01\x00", "\x00\x00", "\x00\x00\x00", "\x01\x00\x00", "\x01\x00\x01a", "\x01\x00\x00ab", "\x01\x00\x01abc", "\x02\x00\x00a", "\x02\x00\x01ab", "\x00\x00\x01a", "\x00\x00\x02ab", "\x00\x00\x01ab", "\x03\x00\x00ab",
		"\xff\x00\x00ab", "\x01\xff\xffab", "\xff\xff\xffab", "\x01\x00\xffab", "\x01\x01\x00a", "\x01\x01\x00ab", "\x01\x01\x01ab", "\x01\x01\x00a" + v[:255], "\x01\x01\x00a" + v[:257], "\x01\x00\x01a" + v[:256], "\x01\x00\x00a" + v[:256],
		"\x00\x00\x00" + k, "\x01\x02\xbda" + v[:701], "\x01\x02\xbca" + v[:701], "\x01\x02\xbda" + v[:700], "\x01\x07\xd0a" + v, "\xff\x02\xbd" + k[:255] + v[:701], "\xff\x00\x00" + k[:254], "\xff\x00\x00" + k, "\x00\x02\xbc" + v[:700], "\x00\x02\xbd" + v[:701],
	} {
		what := fmt.Sprintf("a cell %.20q", cell)
		wantNotRead(t, what, 1, laid(cell))
		wantNotRead(t, what+" ahead", 2, laid(cell, "\x02\x00\x00zz"))
		wantNotRead(t, what+" behind", 2, laid("\x01\x00\x00\x00", cell))
		wantNotRead(t, what+" between", 3, laid("\x01\x00\x00\x00", cell, "\x02\x00\x00zz"))
	}
	wantRead(t, "a cell of a pair", 1, laid("\x01\x02\xbca"+v[:700]), pairs("a", v[:700]))
	wantRead(t, "a cell of zeros in a value", 1, laid("\x01\x00\x02a\x00\x00"), pairs("a", "\x00\x00"))
}

func TestP7_4_PairsThatDoNotRise(t *testing.T) {
	for _, keys := range [][]string{{"b", "a"}, {"a", "a"}, {"ab", "a"}, {"a\x00", "a"}, {"\x00\x00", "\x00"}, {"\xff", "\x00"}, {"a", "c", "b"}, {"b", "a", "c"}, {"a", "b", "b"}, {"a", "b", "a"}} {
		l := keyed(keys...)
		wantNotRead(t, fmt.Sprintf("%q", keys), len(l), plainBody(l))
	}
	wantNotRead(t, "the same cell twice", 2, laid("\x01\x00\x00a", "\x01\x00\x00a"))
}

func TestP7_4_OneByteChanged(t *testing.T) {
	l := pairs("a", "1", "bb", "", "c", "22")
	body := []byte(plainBody(l))
	for place := range body {
		was := body[place]
		for _, b := range []byte{was + 1, was - 1, was ^ 0x80, was ^ 2, 0, 0xff, 'a', 'b', 3, 4} {
			body[place] = b
			wantAsPlain(t, fmt.Sprintf("a body with the byte %d at %d", b, place), 3, string(body))
		}
		body[place] = was
	}
}

func TestP7_4_RandomBodies(t *testing.T) {
	r := rand.New(rand.NewSource(75))
	read := 0
	for range 5000 {
		var texts []string
		for range r.Intn(4) {
			cell := plainCell(api.Pair{Key: strings.Repeat(string([]byte{byte(r.Intn(4))}), r.Intn(3)), Value: randomText(r, 2)})
			switch r.Intn(9) {
			case 0:
				cell = cell[1:]
			case 1:
				cell = cell[:len(cell)-1]
			case 2:
				cell += "\x00"
			case 3:
				cell = randomText(r, 6)
			}
			texts = append(texts, cell)
		}
		body := laid(texts...)
		wantAsPlain(t, fmt.Sprintf("cells %q", texts), len(texts), body)
		if l, err := leaf.Decode(len(texts), body); err == nil {
			read++
			wantBody(t, "what was read", l, body)
		}
	}
	if read < 100 {
		t.Errorf("only %d bodies were a leaf's", read)
	}
}

func TestP7_4_EncodeAndDecodeUndoOneAnother(t *testing.T) {
	r := rand.New(rand.NewSource(76))
	for range 1000 {
		l := randomPairs(r, bodyLen)
		body, err := leaf.Encode(l)
		if len(l) == 0 {
			continue
		}
		if err != nil {
			t.Fatal(err)
		}
		wantRead(t, "what was encoded", len(l), body, l)
		wantNotRead(t, "one fewer", len(l)-1, body)
		wantNotRead(t, "one more", len(l)+1, body)
		again, _ := leaf.Decode(len(l), body)
		wantBody(t, "what was decoded", again, body)
	}
}

func TestP7_5_Places(t *testing.T) {
	l := keyed("\x00", "a", "a\x00", "ab", "c", "\xff")
	for i, p := range l {
		wantPlace(t, l, p.Key, i, true)
		wantPlace(t, l, p.Key+"\x00\x00", i+1+plainBelow(l[i+1:], p.Key+"\x00\x00"), false)
	}
	for _, c := range []struct {
		key   string
		place int
	}{{"", 0}, {"\x00\x00", 1}, {"A", 1}, {"a\x00\x00", 3}, {"aa", 3}, {"b", 4}, {"c\x00", 5}, {"\xfe", 5}, {"\xff\x00", 6}, {"\xff\xff", 6}} {
		wantPlace(t, l, c.key, c.place, false)
	}
	long := strings.Repeat("\xff", 300)
	wantPlace(t, nil, "", 0, false)
	wantPlace(t, nil, "a", 0, false)
	wantPlace(t, []api.Pair{}, "a", 0, false)
	wantPlace(t, l, long, 6, false)
	wantPlace(t, pairs(long, ""), long, 0, true)
	wantPlace(t, pairs("", "x"), "", 0, true)
}

// plainBelow is how many of these pairs have keys below that one.
func plainBelow(l []api.Pair, key string) int {
	n := 0
	for _, p := range l {
		if p.Key < key {
			n++
		}
	}
	return n
}

func TestP7_5_PairsThatDoNotRise(t *testing.T) {
	wantPlace(t, keyed("c", "a", "b"), "b", 0, false)
	wantPlace(t, keyed("a", "c", "b"), "b", 1, false)
	wantPlace(t, keyed("a", "b", "b", "a"), "b", 1, true)
	wantPlace(t, keyed("b", "b", "b"), "b", 0, true)
	wantPlace(t, keyed("a", "z", "a", "a", "a", "a"), "b", 1, false)
	wantPlace(t, keyed("z", "y", "x", "w", "v"), "w", 0, false)
	wantPlace(t, keyed("a", "a", "a", "a", "z"), "z", 4, true)
	wantPlace(t, keyed("c", "b", "a"), "d", 3, false)
	r := rand.New(rand.NewSource(77))
	for range 3000 {
		l := wildPairs(r)
		for _, key := range []string{"", "a", "b", "c", "d\x00", "\xff", randomText(r, 3)} {
			place, found := plainFind(l, key)
			wantPlace(t, l, key, place, found)
		}
	}
}

func TestP7_6_Set(t *testing.T) {
	l := pairs("b", "2", "d", "4")
	wantSet(t, l, "a", "1", pairs("a", "1", "b", "2", "d", "4"))
	wantSet(t, l, "b", "x", pairs("b", "x", "d", "4"))
	wantSet(t, l, "b", "2", l)
	wantSet(t, l, "b", "", pairs("b", "", "d", "4"))
	wantSet(t, l, "b\x00", "3", pairs("b", "2", "b\x00", "3", "d", "4"))
	wantSet(t, l, "d", "x", pairs("b", "2", "d", "x"))
	wantSet(t, l, "e", "5", pairs("b", "2", "d", "4", "e", "5"))
	wantSet(t, l, "", "0", pairs("", "0", "b", "2", "d", "4"))
	wantSet(t, nil, "a", "1", pairs("a", "1"))
	wantSet(t, []api.Pair{}, "", "", pairs("", ""))
}

func TestP7_6_NothingElseIsLookedAt(t *testing.T) {
	key, value := strings.Repeat("k", 300), strings.Repeat("v", 5000)
	wantSet(t, nil, key, value, pairs(key, value))
	wantSet(t, pairs("", "1", "z", value), key, "", pairs("", "1", key, "", "z", value))
	wantSet(t, pairs(key, "1"), key, value, pairs(key, value))
	full := sized(960, 960, 960, 960, 232)
	wantSet(t, full, "\xff", "more", append(slices.Clone(full), api.Pair{Key: "\xff", Value: "more"}))
	wantSet(t, keyed("c", "a", "b"), "b", "x", append(pairs("b", "x"), keyed("c", "a", "b")...))
	wantSet(t, pairs("a", "1", "a", "2"), "a", "x", pairs("a", "x", "a", "2"))
	wantSet(t, pairs("b", "1", "a", "2"), "a", "x", pairs("a", "x", "b", "1", "a", "2"))
}

func TestP7_6_Random(t *testing.T) {
	r := rand.New(rand.NewSource(78))
	for range 3000 {
		l := wildPairs(r)
		p := api.Pair{Key: randomText(r, 2), Value: randomText(r, 4)}
		if len(l) > 0 && r.Intn(2) == 0 {
			p.Key = l[r.Intn(len(l))].Key
		}
		place, found := plainFind(l, p.Key)
		want := slices.Clone(l)
		if found {
			want[place] = p
		} else {
			want = slices.Insert(want, place, p)
		}
		wantSet(t, l, p.Key, p.Value, want)
	}
}

func TestP7_7_Drop(t *testing.T) {
	l := pairs("a", "1", "b", "2", "c", "3")
	wantDrop(t, l, "a", pairs("b", "2", "c", "3"), true)
	wantDrop(t, l, "b", pairs("a", "1", "c", "3"), true)
	wantDrop(t, l, "c", pairs("a", "1", "b", "2"), true)
	for _, key := range []string{"", "\x00", "A", "a\x00", "b1", "d", "\xff", strings.Repeat("k", 300)} {
		wantDrop(t, l, key, l, false)
	}
	wantDrop(t, pairs("a", "1"), "a", nil, true)
	wantDrop(t, pairs("", "1"), "", nil, true)
	wantDrop(t, nil, "a", nil, false)
	wantDrop(t, nil, "", nil, false)
	wantDrop(t, []api.Pair{}, "a", nil, false)
	long := strings.Repeat("k", 300)
	wantDrop(t, pairs("a", "1", long, "2"), long, pairs("a", "1"), true)
}

func TestP7_7_PairsThatDoNotRise(t *testing.T) {
	wantDrop(t, keyed("c", "a"), "a", keyed("c", "a"), false)
	wantDrop(t, pairs("a", "1", "a", "2"), "a", pairs("a", "2"), true)
	wantDrop(t, pairs("c", "1", "a", "2", "c", "3"), "c", pairs("a", "2", "c", "3"), true)
	r := rand.New(rand.NewSource(79))
	for range 3000 {
		l := wildPairs(r)
		key := randomText(r, 2)
		if len(l) > 0 && r.Intn(2) == 0 {
			key = l[r.Intn(len(l))].Key
		}
		place, found := plainFind(l, key)
		want := slices.Clone(l)
		if found {
			want = slices.Delete(want, place, place+1)
		}
		wantDrop(t, l, key, want, found)
	}
}

func TestP7_8_Places(t *testing.T) {
	for _, c := range []struct {
		sizes []int
		want  int
	}{
		{[]int{10, 10, 20}, 2}, {[]int{10, 10}, 1}, {[]int{10, 10, 10}, 1}, {[]int{900, 10, 10}, 1}, {[]int{10, 10, 900}, 2}, {[]int{900, 900, 900, 900, 900}, 2}, {[]int{7, 960}, 1}, {[]int{960, 7}, 1}, {[]int{20, 10, 10}, 1}, {[]int{10, 20, 10}, 1}, {[]int{9, 8, 8, 9}, 2},
	} {
		wantCut(t, fmt.Sprint(c.sizes), sized(c.sizes...), c.want)
	}
	r := rand.New(rand.NewSource(80))
	for range 200 {
		if l := randomPairs(r, 6000); len(l) >= 2 {
			wantCut(t, fmt.Sprintf("%.99q", l), l, plainLeft(l))
		}
	}
	for range 1000 {
		if l := wildPairs(r); len(l) >= 2 {
			wantCut(t, fmt.Sprintf("%.99q", l), l, plainLeft(l))
		}
	}
}

// What a pair takes beside its texts counts, too: by the texts alone these would be cut elsewhere.
func TestP7_8_SizesOfPairs(t *testing.T) {
	l := append(pairs("a", "", "b", "", "c", "", "d", ""), api.Pair{Key: "e", Value: "1234567"})
	wantCut(t, "four small pairs and a great one", l, 3)
	wantCut(t, "empty pairs", make([]api.Pair, 6), 3)
	wantCut(t, "many empty pairs", make([]api.Pair, 100001), 50000)
}

func TestP7_8_Refusals(t *testing.T) {
	x := strings.Repeat("x", 5000)
	wantNoCut(t, "none", nil, api.ErrShort)
	wantNoCut(t, "an empty list", []api.Pair{}, api.ErrShort)
	wantNoCut(t, "one pair", pairs("a", "1"), api.ErrShort)
	wantNoCut(t, "one great pair", pairs("a", x), api.ErrShort)
	wantNoCut(t, "a great pair ahead", pairs("a", x[:4067], "b", ""), api.ErrArg)
	wantNoCut(t, "a great pair behind", pairs("b", "", x[:4060], x[:8]), api.ErrArg)
	wantNoCut(t, "a great pair between", pairs("a", "", x[:4068], "", "c", ""), api.ErrArg)
	wantNoCut(t, "great pairs", pairs("a", x, "b", x), api.ErrArg)
	wantCut(t, "a pair as great as a body", pairs("a", x[:4066], "b", "", "", ""), 1)
	wantCut(t, "a pair as great as a body behind", pairs("", "", "b", "", x[:4067], ""), 2)
	wantCut(t, "pairs that fall", pairs("c", "12", "b", "12", "a", "12"), 1)
}

// wantHalves asks for two leaves that need not be a root.
func wantHalves(t *testing.T, what string, l []api.Pair) {
	t.Helper()
	left, right, err := leaf.Cut(l)
	if err != nil || !slices.Equal(slices.Concat(left, right), l) {
		t.Fatalf("Cut of %s: %d and %d pairs, %v", what, len(left), len(right), err)
	}
	wantCheck(t, what+", the left half", left, false, nil)
	wantCheck(t, what+", the right half", right, false, nil)
	if plainCheck(left, false) != nil || plainCheck(right, false) != nil {
		t.Errorf("the halves of %s have %d and %d bytes", what, plainSize(left), plainSize(right))
	}
}

func TestP7_9_AFullLeafAndOnePair(t *testing.T) {
	for _, sizes := range [][]int{
		{960, 960, 960, 960, 960}, {960, 960, 960, 960, 233}, {233, 960, 960, 960, 960}, {960, 960, 233, 960, 960}, {960, 900, 700, 700, 813}, {7, 7, 960, 960, 960, 960, 900}, {960, 960, 960, 960, 960, 232}, {816, 816, 816, 816, 809}, {960, 537, 960, 656, 960},
		slices.Repeat([]int{7}, 582), slices.Repeat([]int{7}, 718), slices.Repeat([]int{8}, 629), append(slices.Repeat([]int{7}, 445), 960), append([]int{960}, slices.Repeat([]int{7}, 445)...),
	} {
		l := sized(sizes...)
		if size := plainSize(l); size <= 4072 || size > 5032 {
			t.Fatalf("%d bytes are not those of a full leaf and one pair", size)
		}
		wantHalves(t, fmt.Sprintf("%.20v", sizes), l)
	}
	r := rand.New(rand.NewSource(81))
	for cut := 0; cut < 2000; {
		var sizes []int
		for sum, most := 0, 7+r.Intn(954); sum <= 4072; sum += sizes[len(sizes)-1] {
			n := 7 + r.Intn(most-6)
			if r.Intn(4) == 0 {
				n = 960
			}
			sizes = append(sizes, min(n, 5032-sum))
		}
		if slices.Min(sizes) < 7 {
			continue
		}
		cut++
		wantHalves(t, fmt.Sprint(sizes), sized(sizes...))
	}
}

func TestP7_9_TwoLeavesTogether(t *testing.T) {
	for _, sizes := range [][]int{
		{900, 655, 960, 960, 960, 960, 232}, {960, 960, 960, 960, 232, 900, 655}, {960, 960, 960, 960, 232, 7}, {7, 960, 960, 960, 960, 226}, {960, 595, 960, 960, 598}, {960, 960, 598, 595, 960}, append(slices.Repeat([]int{7}, 222), 960, 960, 960, 960, 232),
	} {
		wantHalves(t, fmt.Sprintf("%.20v", sizes), sized(sizes...))
	}
	r := rand.New(rand.NewSource(82))
	for cut := 0; cut < 2000; {
		small, other := randomSizes(r, 1555), randomSizes(r, 4072)
		sizes := append(slices.Clone(small), other...)
		if r.Intn(2) == 0 {
			sizes = append(slices.Clone(other), small...)
		}
		if l := sized(sizes...); plainSize(l) > 4072 {
			cut++
			wantHalves(t, fmt.Sprint(sizes), l)
		}
	}
}

// randomSizes are those of at least one pair, and no more than most in all.
func randomSizes(r *rand.Rand, most int) []int {
	sizes := []int{7 + r.Intn(954)}
	for left := most - sizes[0]; left >= 7 && r.Intn(200) > 0; left -= sizes[len(sizes)-1] {
		sizes = append(sizes, min(7+r.Intn(954), left))
	}
	return sizes
}

var spare = api.Pair{Key: "spare", Value: "room"}

// roomy is the list with spare room behind it, filled with a pair.
func roomy(l []api.Pair) []api.Pair {
	return append(slices.Clone(l), spare, spare, spare)[:len(l)]
}

func TestP7_10_ListsHandedIn(t *testing.T) {
	lists := append(leaves(), nil, []api.Pair{}, pairs("", "x"), pairs("c", "1", "a", "2", "b", "3"), pairs("a", "1", "a", "2"), sized(960, 960, 960, 960, 960), pairs("a", zeros(5000), "b", ""))
	for i, l := range lists {
		handed := roomy(l)
		leaf.Size(handed)
		leaf.Check(handed, true)
		leaf.Check(handed, false)
		leaf.Encode(handed)
		leaf.Cut(handed)
		for _, key := range []string{"", "\x00", "a", "a1", "b", "\xff\xff"} {
			leaf.Find(handed, key)
			leaf.Set(handed, key, "changed")
			leaf.Drop(handed, key)
		}
		if !slices.Equal(handed, l) || !slices.Equal(handed[len(l):len(l)+3], []api.Pair{spare, spare, spare}) {
			t.Errorf("list %d was changed", i)
		}
	}
}

// spoil writes into every place of a list, and into the room behind it.
func spoil(l []api.Pair) {
	for i := range l {
		l[i] = api.Pair{Key: "spoiled"}
	}
	for i := range cap(l) - len(l) {
		l[:cap(l)][len(l)+i] = api.Pair{Key: "spoiled"}
	}
}

// wantApart asks that a spoiled answer changes neither what was handed in nor another answer.
func wantApart(t *testing.T, what string, call func(l []api.Pair) []api.Pair) {
	t.Helper()
	l := pairs("a", "1", "b", "2", "c", "3")
	handed := roomy(l)
	first, second := call(handed), call(handed)
	want := slices.Clone(second)
	spoil(first)
	if !slices.Equal(handed, l) || !slices.Equal(handed[len(l):len(l)+3], []api.Pair{spare, spare, spare}) {
		t.Errorf("%s: the answer shares memory with what was handed in", what)
	}
	if !slices.Equal(second, want) {
		t.Errorf("%s: two answers share memory", what)
	}
	spoil(handed)
	if !slices.Equal(second, want) {
		t.Errorf("%s: what was handed in is kept", what)
	}
}

func TestP7_10_AnswersNewMemory(t *testing.T) {
	for _, key := range []string{"", "a", "a1", "b", "c", "d"} {
		wantApart(t, "Set of "+key, func(l []api.Pair) []api.Pair { return leaf.Set(l, key, "new") })
		wantApart(t, "Drop of "+key, func(l []api.Pair) []api.Pair { l, _ = leaf.Drop(l, key); return l })
	}
	wantApart(t, "Cut's left", func(l []api.Pair) []api.Pair { left, _, _ := leaf.Cut(l); return left })
	wantApart(t, "Cut's right", func(l []api.Pair) []api.Pair { _, right, _ := leaf.Cut(l); return right })
	wantApart(t, "Decode", func([]api.Pair) []api.Pair {
		l, _ := leaf.Decode(2, plainBody(pairs("a", "1", "b", "2")))
		return l
	})
	none := make([]api.Pair, 0, 3)
	for _, call := range []func(l []api.Pair) []api.Pair{
		func(l []api.Pair) []api.Pair { return leaf.Set(l, "a", "1")[:0] },
		func(l []api.Pair) []api.Pair { l, _ = leaf.Drop(l, "a"); return l },
	} {
		spoil(call(none))
		if !slices.Equal(none[:3], make([]api.Pair, 3)) {
			t.Error("an answer to an empty list has the room behind it")
		}
	}
}

func TestP7_10_CutsListsApart(t *testing.T) {
	for n := 2; n <= 40; n++ {
		l := sized(slices.Repeat([]int{9}, n)...)
		left, right, err := leaf.Cut(l)
		if err != nil {
			t.Fatal(err)
		}
		wantRight := slices.Clone(right)
		spoil(left)
		_ = append(left, spare, spare)
		if !slices.Equal(right, wantRight) {
			t.Fatalf("Cut of %d pairs: the left list reaches into the right one", n)
		}
		left, right, _ = leaf.Cut(l)
		wantLeft := slices.Clone(left)
		spoil(right)
		if !slices.Equal(left, wantLeft) {
			t.Fatalf("Cut of %d pairs: the right list reaches into the left one", n)
		}
	}
}

func TestP7_10_NilAndEmpty(t *testing.T) {
	for _, root := range []bool{true, false} {
		if leaf.Check(nil, root) != leaf.Check([]api.Pair{}, root) {
			t.Errorf("Check, root %v: nil and an empty list differ", root)
		}
	}
	if leaf.Size(nil) != leaf.Size([]api.Pair{}) {
		t.Error("Size: nil and an empty list differ")
	}
}

func TestExamples(t *testing.T) {
	if got := leaf.Size(nil); got != 0 {
		t.Errorf("Size of none: %d", got)
	}
	if got := leaf.Size(pairs("a", "1", "bb", "")); got != 14 {
		t.Errorf("Size: %d, want 14", got)
	}
	wantCheck(t, "none", nil, true, api.ErrShort)
	wantCheck(t, "one pair", pairs("a", "1"), true, nil)
	wantCheck(t, "one pair", pairs("a", "1"), false, api.ErrShort)
	wantCheck(t, "b, a", keyed("b", "a"), true, api.ErrOrder)
	wantCheck(t, "a, a", keyed("a", "a"), true, api.ErrOrder)
	wantCheck(t, "an empty key", pairs("", ""), true, api.ErrArg)
	wantCheck(t, "a value of 701 bytes", pairs("a", zeros(701)), true, api.ErrArg)
	wantBoth(t, "five pairs of 900 bytes", sized(900, 900, 900, 900, 900), api.ErrMany)
	wantBody(t, "one pair", pairs("a", "1"), "\x00\x07\x01\x00\x01\x61\x31"+zeros(4065))
	wantPlace(t, keyed("a", "c"), "b", 1, false)
	wantPlace(t, keyed("a", "c"), "c", 1, true)
	wantPlace(t, keyed("a", "c"), "d", 2, false)
	wantSet(t, pairs("a", "1", "c", "3"), "b", "2", pairs("a", "1", "b", "2", "c", "3"))
	wantSet(t, pairs("a", "1"), "a", "9", pairs("a", "9"))
	wantDrop(t, pairs("a", "1", "b", "2"), "a", pairs("b", "2"), true)
	wantDrop(t, pairs("a", "1", "b", "2"), "x", pairs("a", "1", "b", "2"), false)
	wantNoCut(t, "one pair", pairs("a", "1"), api.ErrShort)
	wantCut(t, "10, 10, 20", sized(10, 10, 20), 2)
}
