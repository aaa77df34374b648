package tuple_test

import (
	"bytes"
	"encoding/binary"
	"math"
	"math/rand"
	"reflect"
	"slices"
	"strings"
	"testing"

	"copse/api"
	"copse/tuple"
)

func null() api.Item                 { return api.Item{Kind: api.ItemNull} }
func flag(n int) api.Item            { return api.Item{Kind: api.ItemFlag, Num: n} }
func num(n int) api.Item             { return api.Item{Kind: api.ItemNum, Num: n} }
func text(s string) api.Item         { return api.Item{Kind: api.ItemText, Text: s} }
func list(l ...api.Item) api.Item    { return api.Item{Kind: api.ItemList, List: l} }
func items(l ...api.Item) []api.Item { return l }

func times(n int, x api.Item) []api.Item {
	return slices.Repeat([]api.Item{x}, n)
}

// wrap puts a list into depth lists, so that depth lists lie around it.
func wrap(l []api.Item, depth int) []api.Item {
	for range depth {
		l = items(list(l...))
	}
	return l
}

// same: lists that are nil and empty are the same.
func same(a, b []api.Item) bool {
	return slices.EqualFunc(a, b, func(x, y api.Item) bool {
		return x.Kind == y.Kind && x.Num == y.Num && x.Text == y.Text && same(x.List, y.List)
	})
}

// textByChapter is a list's text, made item by item from the chapter's words, with no limit.
func textByChapter(l []api.Item) string {
	out := ""
	for _, x := range l {
		switch x.Kind {
		case api.ItemNull:
			out += "\x01"
		case api.ItemFlag:
			out += []string{"\x02\x00", "\x02\x01"}[x.Num]
		case api.ItemNum:
			high := binary.BigEndian.AppendUint32(nil, uint32(int32(x.Num>>32))^0x80000000)
			out += "\x03" + string(binary.BigEndian.AppendUint32(high, uint32(x.Num)))
		case api.ItemText:
			out += "\x04" + strings.ReplaceAll(x.Text, "\x00", "\x00\xff") + "\x00\x00"
		case api.ItemList:
			out += "\x05" + textByChapter(x.List) + "\x00"
		}
	}
	return out
}

// orderByChapter is the order of lists, item by item.
func orderByChapter(a, b []api.Item) int {
	for i := range min(len(a), len(b)) {
		if c := itemsByChapter(a[i], b[i]); c != 0 {
			return c
		}
	}
	return sign(len(a), len(b))
}

func itemsByChapter(a, b api.Item) int {
	switch {
	case a.Kind != b.Kind:
		return sign(a.Kind, b.Kind)
	case a.Kind == api.ItemText:
		return bytes.Compare([]byte(a.Text), []byte(b.Text))
	case a.Kind == api.ItemList:
		return orderByChapter(a.List, b.List)
	}
	return sign(a.Num, b.Num)
}

func sign(a, b int) int {
	switch {
	case a < b:
		return -1
	case a > b:
		return 1
	}
	return 0
}

// someItems are of every kind, with the edges of each.
func someItems() []api.Item {
	l := items(null(), flag(0), flag(1))
	for _, n := range []int{0, 1, -1, 2, -2, 127, 128, 255, 256, -255, -256, -257, 258, 65535, 65536, 1<<31 - 1, 1 << 31, -1 << 31, 1<<32 - 1, 1 << 32, -1 << 32, math.MaxInt, math.MaxInt - 1, math.MinInt, math.MinInt + 1, 1 << 62, -1 << 62} {
		l = append(l, num(n))
	}
	for _, s := range []string{"", "\x00", "\x00\x00", "\x00\x01", "\x00\xff", "\x01", "\x01\x02", "\x05", "a", "a\x00", "a\x00\x00", "a\x00\x01", "a\x00\xff", "a\x01", "a\xff", "ab", "b", "\xfe", "\xff", "\xff\x00", "\xff\xff", "\x80", "\xc3\xa9", "\xef\xbf\xbd"} {
		l = append(l, text(s))
	}
	inner := slices.Clone(l)
	l = append(l, list(), list(list()), list(list(list())), list(list(list(list()))), list(null(), list()), list(list(), null()), list(null(), null()), list(text("a"), num(1)), list(text("a"), num(1), null()), list(list(text("a")), list(num(-1))))
	for _, x := range inner {
		l = append(l, list(x))
	}
	return l
}

// someLists are of every kind: of no item, of one, of two, and of more.
func someLists() [][]api.Item {
	lists := [][]api.Item{nil}
	all := someItems()
	for i, x := range all {
		lists = append(lists, items(x), items(x, null()), items(x, all[(i*7+3)%len(all)]), items(x, x, x))
	}
	r := rand.New(rand.NewSource(1))
	for range 300 {
		lists = append(lists, randomList(r, 0))
	}
	return lists
}

// randomList is short and of few different items, so that two of them often begin alike.
func randomList(r *rand.Rand, depth int) []api.Item {
	var l []api.Item
	for range r.Intn(5) {
		switch kind := 1 + r.Intn(5); {
		case kind == api.ItemNull:
			l = append(l, null())
		case kind == api.ItemFlag:
			l = append(l, flag(r.Intn(2)))
		case kind == api.ItemNum:
			l = append(l, num((r.Intn(3)-1)<<(8*r.Intn(8))))
		case kind == api.ItemText:
			b := make([]byte, r.Intn(4))
			for i := range b {
				b[i] = "\x00\x01a\xff"[r.Intn(4)]
			}
			l = append(l, text(string(b)))
		case depth < api.MaxNesting:
			l = append(l, list(randomList(r, depth+1)...))
		}
	}
	return l
}

// packed is the text of a list that may be so.
func packed(t *testing.T, l []api.Item) string {
	t.Helper()
	s, err := tuple.Pack(l)
	if err != nil {
		t.Fatalf("Pack(%+v): %v", l, err)
	}
	return s
}

// refusePack: a fault is told by Pack, and by Compare whichever of the two lists has it.
func refusePack(t *testing.T, what string, l []api.Item, want error) {
	t.Helper()
	if s, err := tuple.Pack(l); s != "" || err != want {
		t.Errorf("%s: Pack = %.40q, %v, want %v", what, s, err, want)
	}
	if c, err := tuple.Compare(l, items(null())); c != 0 || err != want {
		t.Errorf("%s: Compare with it as the first = %d, %v, want %v", what, c, err, want)
	}
	if c, err := tuple.Compare(items(null()), l); c != 0 || err != want {
		t.Errorf("%s: Compare with it as the second = %d, %v, want %v", what, c, err, want)
	}
}

func refuseUnpack(t *testing.T, s string) {
	t.Helper()
	if l, err := tuple.Unpack(s); len(l) != 0 || err != api.ErrText {
		t.Errorf("Unpack(%.60q) = %+v, %v, want no items and ErrText", s, l, err)
	}
}

var examples = []struct {
	l []api.Item
	s string
}{
	{nil, ""},
	{items(), ""},
	{items(null(), flag(1)), "\x01\x02\x01"},
	{items(num(0)), "\x03\x80\x00\x00\x00\x00\x00\x00\x00"},
	{items(num(-1)), "\x03\x7F\xFF\xFF\xFF\xFF\xFF\xFF\xFF"},
	{items(num(258)), "\x03\x80\x00\x00\x00\x00\x00\x01\x02"},
	{items(num(math.MinInt)), "\x03\x00\x00\x00\x00\x00\x00\x00\x00"},
	{items(num(math.MaxInt)), "\x03\xFF\xFF\xFF\xFF\xFF\xFF\xFF\xFF"},
	{items(text("a")), "\x04\x61\x00\x00"},
	{items(text("a\x00")), "\x04\x61\x00\xFF\x00\x00"},
	{items(text("")), "\x04\x00\x00"},
	{items(text("\xFF\x00\xFF")), "\x04\xFF\x00\xFF\xFF\x00\x00"},
	{items(list(null(), list())), "\x05\x01\x05\x00\x00"},
	{items(list(list(list(list())))), "\x05\x05\x05\x05\x00\x00\x00\x00"},
	{items(api.Item{Kind: api.ItemList, List: []api.Item{}}), "\x05\x00"},
}

func TestP2_1Examples(t *testing.T) {
	for _, c := range examples {
		if s, err := tuple.Pack(c.l); s != c.s || err != nil {
			t.Errorf("Pack(%+v) = %x, %v, want %x", c.l, s, err, c.s)
		}
	}
	refusePack(t, "a flag of 2", items(flag(2)), api.ErrArg)
	refusePack(t, "a Kind 6", items(api.Item{Kind: 6}), api.ErrArg)
	refusePack(t, "nothing with a text", items(api.Item{Kind: api.ItemNull, Text: "x"}), api.ErrArg)
	refusePack(t, "17 items", times(17, null()), api.ErrMany)
	refusePack(t, "five lists in one another", wrap(nil, 5), api.ErrMany)
	refusePack(t, "a text of 65534 bytes", items(text(strings.Repeat("a", 65534))), api.ErrMany)
	if s, err := tuple.Pack(items(text(strings.Repeat("a", 65533)))); len(s) != 65536 || err != nil {
		t.Errorf("a text of 65533 bytes: %d bytes, %v", len(s), err)
	}
}

func TestP2_1EveryKind(t *testing.T) {
	for _, l := range someLists() {
		if s, err := tuple.Pack(l); s != textByChapter(l) || err != nil {
			t.Fatalf("Pack(%+v) = %x, %v, want %x", l, s, err, textByChapter(l))
		}
	}
}

// atDepths gives a list around which each number of lists lies that may be.
func atDepths(l []api.Item) [][]api.Item {
	var all [][]api.Item
	for depth := range api.MaxNesting + 1 {
		all = append(all, wrap(l, depth))
	}
	return all
}

func TestP2_1ItemsInEachDepth(t *testing.T) {
	for depth := range api.MaxNesting + 1 {
		l := wrap(times(16, text("x")), depth)
		if s := packed(t, l); s != textByChapter(l) {
			t.Errorf("16 items within %d lists: %x", depth, s)
		}
		refusePack(t, "17 items, deep", wrap(times(17, null()), depth), api.ErrMany)
		refusePack(t, "17 items that may not be so", wrap(times(17, flag(2)), depth), api.ErrMany)
		refusePack(t, "17 items behind 15 others", append(times(15, null()), wrap(times(17, null()), depth)...), api.ErrMany)
	}
	refusePack(t, "many items", times(1000, null()), api.ErrMany)
}

// TestP2_1FullInEveryDepth: 16 items in each list of each depth, as many as fit.
func TestP2_1FullInEveryDepth(t *testing.T) {
	l := times(16, null())
	for range 2 {
		l = times(16, list(l...))
	}
	if s, err := tuple.Pack(l); err != nil || s != textByChapter(l) {
		t.Errorf("16 items in each of 3 depths: %d bytes, %v", len(s), err)
	}
	refusePack(t, "16 lists of them: above 65536 bytes", times(16, list(l...)), api.ErrMany)
}

func TestP2_1ListsInOneAnother(t *testing.T) {
	for depth := range 8 {
		l := wrap(nil, depth)
		if depth <= 4 {
			want := strings.Repeat("\x05", depth) + strings.Repeat("\x00", depth)
			if s := packed(t, l); s != want {
				t.Errorf("%d lists in one another: %x, want %x", depth, s, want)
			}
			continue
		}
		refusePack(t, "too many lists in one another", l, api.ErrMany)
		refusePack(t, "behind others", append(times(3, list(list())), l...), api.ErrMany)
	}
}

func TestP2_1AListInItself(t *testing.T) {
	l := items(null(), list())
	l[1].List = l
	refusePack(t, "a list in itself", l, api.ErrMany)
}

func TestP2_1BytesOfAText(t *testing.T) {
	many := func(s string, n int) api.Item { return text(strings.Repeat(s, n)) }
	for _, c := range []struct {
		what  string
		l     []api.Item
		bytes int
	}{
		{"letters", items(many("a", 65533)), 65536},
		{"zeros", items(many("\x00", 32766)), 65535},
		{"zeros and a letter", items(text("a" + strings.Repeat("\x00", 32766))), 65536},
		{"a letter behind zeros", items(text(strings.Repeat("\x00", 32766) + "a")), 65536},
		{"several, one above", items(num(1), many("b", 65523), flag(0)), 65537},
		{"several that fit", items(num(1), many("b", 65522), flag(0)), 65536},
		{"within four lists", wrap(items(many("c", 65525)), 4), 65536},
		{"within four lists, one above", wrap(items(many("c", 65526)), 4), 65537},
		{"a null too many", items(many("d", 65533), null()), 65537},
		{"a null ahead too many", items(null(), many("d", 65533)), 65537},
		{"an empty text too many", items(many("d", 65531), text("")), 65537},
		{"an empty list too many", items(many("d", 65532), list()), 65537},
		{"a flag too many", items(many("d", 65532), flag(1)), 65537},
		{"a number too many", items(many("d", 65525), num(0)), 65537},
		{"zeros too many", items(many("\x00", 32767)), 65537},
		{"half and half", items(many("e", 32765), many("e", 32765)), 65536},
		{"half and half, one above", items(many("e", 32765), many("e", 32766)), 65537},
		{"lists of texts", items(list(many("f", 32763)), list(many("f", 32763))), 65536},
		{"lists of texts, one above", items(list(many("f", 32763)), list(many("f", 32764))), 65537},
		{"very long", items(many("g", 1<<20)), 1<<20 + 3},
		{"very long, of zeros", items(many("\x00", 1<<20)), 1<<21 + 3},
	} {
		want := textByChapter(c.l)
		if len(want) != c.bytes {
			t.Fatalf("%s: %d bytes, not %d: the test is wrong", c.what, len(want), c.bytes)
		}
		if c.bytes > 65536 {
			refusePack(t, c.what, c.l, api.ErrMany)
			refuseUnpack(t, want)
			continue
		}
		if s := packed(t, c.l); s != want {
			t.Errorf("%s: another text, of %d bytes", c.what, len(s))
		}
		if l, err := tuple.Unpack(want); err != nil || !same(l, c.l) {
			t.Errorf("%s: Unpack: %d items, %v", c.what, len(l), err)
		}
	}
}

// TestP2_1LittleMemoryLongText: a list that lies in others many times over has a text of 2^40 bytes; it is refused without making that.
func TestP2_1LittleMemoryLongText(t *testing.T) {
	l := times(16, text(strings.Repeat("a", 1<<20)))
	for range 4 {
		l = times(16, list(l...))
	}
	refusePack(t, "2^40 bytes", l, api.ErrMany)
}

func TestP2_1KindsThatAreNone(t *testing.T) {
	for _, kind := range []int{0, 6, 7, -1, -2, -5, 255, 256, 257, 258, 259, 260, 261, 1 << 32, 1<<32 + 1, 1<<32 + 4, math.MaxInt, math.MinInt, math.MinInt + 1, math.MinInt + 5} {
		for _, l := range atDepths(items(api.Item{Kind: kind})) {
			refusePack(t, "a kind that is none", l, api.ErrArg)
		}
		refusePack(t, "with all fields", items(api.Item{Kind: kind, Num: 1, Text: "x", List: items(null())}), api.ErrArg)
	}
}

func TestP2_1ForeignFields(t *testing.T) {
	nums := func(x api.Item) []api.Item {
		var l []api.Item
		for _, n := range []int{1, -1, 2, 256, 1 << 32, math.MinInt, math.MaxInt} {
			x.Num = n
			l = append(l, x)
		}
		return l
	}
	texts := func(x api.Item) []api.Item {
		var l []api.Item
		for _, s := range []string{"x", "\x00", " ", "abc"} {
			x.Text = s
			l = append(l, x)
		}
		return l
	}
	lists := func(x api.Item) []api.Item {
		var l []api.Item
		for _, in := range [][]api.Item{items(null()), items(api.Item{}), items(null(), null()), times(17, null())} {
			x.List = in
			l = append(l, x)
		}
		return l
	}
	bad := slices.Concat(
		nums(null()), texts(null()), lists(null()),
		texts(flag(0)), texts(flag(1)), lists(flag(0)), lists(flag(1)),
		texts(num(0)), texts(num(7)), lists(num(0)), lists(num(7)),
		nums(text("")), nums(text("a")), lists(text("")), lists(text("a")),
		nums(list()), nums(list(null())), texts(list()), texts(list(null())),
	)
	for _, x := range bad {
		for _, l := range atDepths(items(x)) {
			refusePack(t, "a foreign field", l, api.ErrArg)
		}
		refusePack(t, "a foreign field, behind others", items(null(), list(num(1)), x), api.ErrArg)
	}
}

func TestP2_1EmptyForeignLists(t *testing.T) {
	for _, x := range items(null(), flag(1), num(5), text("a"), list()) {
		want := packed(t, items(x))
		x.List = make([]api.Item, 0, 3)
		if s := packed(t, items(x)); s != want {
			t.Errorf("with an empty list: %x, want %x", s, want)
		}
	}
}

func TestP2_1FlagsThatAreNone(t *testing.T) {
	for _, n := range []int{2, 3, -1, -2, 255, 256, 257, 1 << 32, 1<<32 + 1, math.MinInt, math.MinInt + 1, math.MaxInt} {
		for _, l := range atDepths(items(flag(n))) {
			refusePack(t, "a flag that is none", l, api.ErrArg)
		}
	}
}

func TestP2_1WhichFaultCounts(t *testing.T) {
	many, deep, wrong := times(17, null()), wrap(nil, 5), flag(2)
	long := text(strings.Repeat("a", 70000))
	for _, c := range []struct {
		what string
		l    []api.Item
		want error
	}{
		{"the count ahead of the items", append(items(wrong), many...), api.ErrMany},
		{"an inner count ahead of its items", items(list(append(items(wrong), many...)...)), api.ErrMany},
		{"an item ahead of an inner count", items(wrong, list(many...)), api.ErrArg},
		{"an inner count ahead of a later item", items(list(many...), wrong), api.ErrMany},
		{"an item ahead of lists too deep", append(items(wrong), deep...), api.ErrArg},
		{"lists too deep ahead of a later item", append(slices.Clone(deep), wrong), api.ErrMany},
		{"an inner item ahead of an inner count", items(list(wrong), list(many...)), api.ErrArg},
		{"an inner item ahead of the second of its list", items(list(null(), wrong, list(many...))), api.ErrArg},
		{"a foreign field ahead of what its list holds", items(api.Item{Kind: api.ItemList, Num: 1, List: many}), api.ErrArg},
		{"a foreign field ahead of the depth", wrap(items(api.Item{Kind: api.ItemList, Text: "x"}), 4), api.ErrArg},
		{"the depth ahead of what the list holds", wrap(items(list(wrong)), 4), api.ErrMany},
		{"the depth ahead of the next item", wrap(items(list(), wrong), 4), api.ErrMany},
		{"an item of the innermost list ahead of the depth", wrap(items(wrong, list()), 4), api.ErrArg},
		{"an item behind a text that is too long", items(long, wrong), api.ErrArg},
		{"a kind behind a text that is too long", items(long, api.Item{}), api.ErrArg},
		{"an inner item behind a text that is too long", items(long, list(wrong)), api.ErrArg},
		{"an item behind a list whose text is too long", items(list(long), wrong), api.ErrArg},
		{"a text that is too long alone", items(long, null()), api.ErrMany},
	} {
		refusePack(t, c.what, c.l, c.want)
	}
}

func TestP2_2Examples(t *testing.T) {
	for _, c := range examples {
		if l, err := tuple.Unpack(c.s); !same(l, c.l) || err != nil {
			t.Errorf("Unpack(%x) = %+v, %v, want %+v", c.s, l, err, c.l)
		}
	}
	for _, s := range []string{"\x02\x02", "\x03\x80", "\x04\x61\x00", "\x04\x61\x00\x01", "\x05\x01", "\x06", "\x00"} {
		refuseUnpack(t, s)
	}
}

func TestP2_2ThereAndBack(t *testing.T) {
	for _, l := range someLists() {
		got, err := tuple.Unpack(textByChapter(l))
		if err != nil || !same(got, l) {
			t.Fatalf("Unpack(%x) = %+v, %v, want %+v", textByChapter(l), got, err, l)
		}
	}
}

// textsOf gives the texts of all lists of just n bytes whose texts inside are of the letters alone; itemsOf those of all items.
func textsOf(n int, letters string) []string {
	if n == 0 {
		return []string{""}
	}
	var all []string
	for first := 1; first <= n; first++ {
		for _, a := range itemsOf(first, letters) {
			for _, b := range textsOf(n-first, letters) {
				all = append(all, a+b)
			}
		}
	}
	return all
}

func itemsOf(n int, letters string) []string {
	var all []string
	switch n {
	case 1:
		all = append(all, "\x01")
	case 2:
		all = append(all, "\x02\x00", "\x02\x01")
	}
	if n >= 3 {
		for _, s := range writtenOf(n-3, letters) {
			all = append(all, "\x04"+s+"\x00\x00")
		}
	}
	if n >= 2 {
		for _, s := range textsOf(n-2, letters) {
			all = append(all, "\x05"+s+"\x00")
		}
	}
	return all
}

// writtenOf gives all that n bytes may be within a text.
func writtenOf(n int, letters string) []string {
	if n < 0 {
		return nil
	}
	if n == 0 {
		return []string{""}
	}
	var all []string
	for i := range len(letters) {
		c, bytes := letters[i:i+1], 1
		if c == "\x00" {
			c, bytes = "\x00\xff", 2
		}
		for _, s := range writtenOf(n-bytes, letters) {
			all = append(all, c+s)
		}
	}
	return all
}

// everyText calls do with every text of at most n bytes that are of the letters.
func everyText(n int, letters string, do func(s string)) {
	texts := []string{""}
	for len(texts) > 0 {
		s := texts[len(texts)-1]
		texts = texts[:len(texts)-1]
		do(s)
		if len(s) < n {
			for i := range len(letters) {
				texts = append(texts, s+letters[i:i+1])
			}
		}
	}
}

// TestP2_2EveryShortText: of all short texts just those are read that are the texts of lists.
func TestP2_2EveryShortText(t *testing.T) {
	const letters, longest = "\x00\x01\x02\x04\x05\x06\xff", 6
	may := map[string]bool{}
	for n := range longest + 1 {
		for _, s := range textsOf(n, letters) {
			may[s] = true
		}
	}
	everyText(longest, letters, func(s string) {
		if !may[s] {
			refuseUnpack(t, s)
			return
		}
		if l, err := tuple.Unpack(s); err != nil || textByChapter(l) != s {
			t.Errorf("Unpack(%x) = %+v, %v", s, l, err)
		}
	})
}

func TestP2_2EveryByte(t *testing.T) {
	for b := range 256 {
		s := string([]byte{byte(b)})
		if b != 1 {
			refuseUnpack(t, s)
		}
		if b > 1 {
			refuseUnpack(t, "\x02"+s)
		}
		if b != 0 {
			refuseUnpack(t, "\x04a\x00"+s)
		}
		if b != 0 && b != 0xFF {
			refuseUnpack(t, "\x04a\x00"+s+"\x00\x00")
			refuseUnpack(t, "\x05\x04a\x00"+s+"\x00")
		}
		if b != 0 {
			want := items(text("a" + s))
			if l, err := tuple.Unpack("\x04a" + s + "\x00\x00"); err != nil || !same(l, want) {
				t.Errorf("a text of a and %x: %+v, %v", b, l, err)
			}
		}
	}
}

// TestP2_2CutShortOrWithMore: what is behind a text may be a further item, and then it is one; a text that is cut is read only where an item ends.
func TestP2_2CutShortOrWithMore(t *testing.T) {
	for _, x := range someItems() {
		s := packed(t, items(x))
		for cut := 1; cut < len(s); cut++ {
			refuseUnpack(t, s[:cut])
			refuseUnpack(t, "\x01"+s[:cut])
		}
		for _, more := range []string{"\x00", "\x06", "\xff", "\x02", "\x03", "\x04", "\x05", "\x00\x00", "\x01\x00", "a"} {
			refuseUnpack(t, s+more)
		}
		if l, err := tuple.Unpack(s + "\x01"); err != nil || !same(l, items(x, null())) {
			t.Errorf("Unpack(%x 01) = %+v, %v", s, l, err)
		}
	}
}

func TestP2_2Numbers(t *testing.T) {
	r := rand.New(rand.NewSource(2))
	for range 2000 {
		n := int(r.Uint64())
		s := textByChapter(items(num(n)))
		if l, err := tuple.Unpack(s); err != nil || !same(l, items(num(n))) {
			t.Fatalf("Unpack(%x) = %+v, %v, want %d", s, l, err, n)
		}
	}
	for short := range 8 {
		refuseUnpack(t, "\x03"+strings.Repeat("\x01", short))
	}
}

func TestP2_2Limits(t *testing.T) {
	for depth := range api.MaxNesting + 1 {
		l := wrap(times(16, flag(1)), depth)
		if got, err := tuple.Unpack(textByChapter(l)); err != nil || !same(got, l) {
			t.Errorf("16 items within %d lists: %+v, %v", depth, got, err)
		}
		refuseUnpack(t, textByChapter(wrap(times(17, flag(1)), depth)))
	}
	for depth := range 5 {
		if got, err := tuple.Unpack(textByChapter(wrap(nil, depth))); err != nil || !same(got, wrap(nil, depth)) {
			t.Errorf("%d lists in one another: %+v, %v", depth, got, err)
		}
	}
	for _, depth := range []int{5, 6, 7, 1000, 30000} {
		s := strings.Repeat("\x05", depth)
		refuseUnpack(t, s)
		refuseUnpack(t, s+strings.Repeat("\x00", depth))
		refuseUnpack(t, "\x05\x00"+s+strings.Repeat("\x00", depth))
	}
	refuseUnpack(t, strings.Repeat("\x01", 65536))
	refuseUnpack(t, strings.Repeat("\x00", 1<<20))
	refuseUnpack(t, "\x04"+strings.Repeat("a", 1<<20)+"\x00\x00")
}

// TestP2_2AnyBytes: texts with a byte changed, put in or taken out are read just where they are the text of what is read.
func TestP2_2AnyBytes(t *testing.T) {
	r := rand.New(rand.NewSource(3))
	read := 0
	for _, l := range someLists() {
		for range 20 {
			b := []byte(textByChapter(l))
			at := r.Intn(len(b) + 1)
			c := "\x00\x01\x02\x03\x04\x05a\xff"[r.Intn(8)]
			switch r.Intn(3) {
			case 0:
				b = slices.Insert(b, at, c)
			case 1:
				b = slices.Delete(b, min(at, max(0, len(b)-1)), min(at+1, len(b)))
			case 2:
				if at < len(b) {
					b[at] = c
				}
			}
			got, err := tuple.Unpack(string(b))
			switch {
			case err == nil && textByChapter(got) == string(b):
				read++
				if s, err := tuple.Pack(got); err != nil || s != string(b) {
					t.Fatalf("Unpack(%x) = %+v, which may not be so: %v", b, got, err)
				}
			case err == api.ErrText && len(got) == 0:
			default:
				t.Fatalf("Unpack(%x) = %+v, %v", b, got, err)
			}
		}
	}
	if read == 0 {
		t.Error("no text was read: the test is wrong")
	}
}

func TestP2_3Examples(t *testing.T) {
	for _, c := range []struct {
		a, b []api.Item
		want int
	}{
		{items(text("a")), items(text("a\x00")), -1},
		{items(list(num(1))), items(list(num(1), null())), -1},
		{items(text("")), items(list()), -1},
		{nil, items(null()), -1},
		{items(num(2)), items(num(-3)), 1},
		{nil, items(), 0},
		{items(list()), items(api.Item{Kind: api.ItemList, List: []api.Item{}}), 0},
	} {
		if got, err := tuple.Compare(c.a, c.b); got != c.want || err != nil {
			t.Errorf("Compare(%+v, %+v) = %d, %v, want %d", c.a, c.b, got, err, c.want)
		}
		if got, err := tuple.Compare(c.b, c.a); got != -c.want || err != nil {
			t.Errorf("Compare(%+v, %+v) = %d, %v, want %d", c.b, c.a, got, err, -c.want)
		}
	}
}

// TestP2_3EndOfAList: where one list is the beginning of the other it is less, at every depth and whatever comes further.
func TestP2_3EndOfAList(t *testing.T) {
	for _, x := range someItems() {
		if slices.ContainsFunc(x.List, func(y api.Item) bool { return y.Kind == api.ItemList }) {
			continue // wrapped further down it would be too deep
		}
		for depth := range 4 {
			short, long := wrap(items(num(1)), depth), wrap(items(num(1), x), depth)
			if c, err := tuple.Compare(short, long); c != -1 || err != nil {
				t.Errorf("within %d lists: Compare(1; 1, %+v) = %d, %v", depth, x, c, err)
			}
			if depth == 0 {
				continue
			}
			if c, err := tuple.Compare(append(short, list()), long); c != -1 || err != nil {
				t.Errorf("within %d lists, a list behind the shorter one: %d, %v", depth, c, err)
			}
		}
	}
}

func TestP2_3FaultOfTheFirst(t *testing.T) {
	wrong, many := items(flag(2)), times(17, null())
	long := items(text(strings.Repeat("a", 65534)))
	for _, c := range []struct {
		a, b []api.Item
		want error
	}{
		{wrong, many, api.ErrArg},
		{many, wrong, api.ErrMany},
		{long, wrong, api.ErrMany},
		{wrong, long, api.ErrArg},
		{nil, wrong, api.ErrArg},
		{wrong, nil, api.ErrArg},
		{items(num(1)), items(num(0), flag(2)), api.ErrArg},
		{items(num(0)), long, api.ErrMany},
		{long, long, api.ErrMany},
		{wrong, wrong, api.ErrArg},
	} {
		if got, err := tuple.Compare(c.a, c.b); got != 0 || err != c.want {
			t.Errorf("Compare of %d and %d items = %d, %v, want 0 and %v", len(c.a), len(c.b), got, err, c.want)
		}
	}
}

func TestP2_4Examples(t *testing.T) {
	for _, c := range []struct {
		s, up string
		ok    bool
	}{
		{"ab", "ac", true},
		{"a\xFF\xFF", "b", true},
		{"\xFF", "", false},
		{"", "", false},
		{"\xFF\xFF\xFF", "", false},
		{"\x00", "\x01", true},
		{"\x7F", "\x80", true},
		{"\xC3\xFF", "\xC4", true},
		{"\xFE", "\xFF", true},
		{"a\xFE\xFF", "a\xFF", true},
		{"\xFF\x00\xFF", "\xFF\x01", true},
		{"\xFFa\xFF", "\xFFb", true},
		{"\x80\xFE", "\x80\xFF", true},
	} {
		if up, ok := tuple.Above(c.s); up != c.up || ok != c.ok {
			t.Errorf("Above(%x) = %x, %v, want %x, %v", c.s, up, ok, c.up, c.ok)
		}
	}
}

// TestP2_4Least: every short text stands below Above(s) just if it isn't above all texts that begin with s.
func TestP2_4Least(t *testing.T) {
	const letters = "\x00\x01a\xfe\xff"
	everyText(3, letters, func(s string) {
		up, ok := tuple.Above(s)
		last := s + strings.Repeat("\xff", 9)
		if none := strings.Count(s, "\xff") == len(s); ok == none {
			t.Fatalf("Above(%x) = %x, %v", s, up, ok)
		}
		if !ok {
			return
		}
		if up <= last {
			t.Fatalf("Above(%x) = %x is not above %x", s, up, last)
		}
		everyText(4, letters, func(other string) {
			if above := other > last; above != (other >= up) {
				t.Fatalf("Above(%x) = %x, but %x stands otherwise", s, up, other)
			}
		})
	})
}

func TestP2_4EveryByteAndLongTexts(t *testing.T) {
	for b := range 255 {
		s := "x\xff" + string([]byte{byte(b)})
		want := "x\xff" + string([]byte{byte(b + 1)})
		for _, behind := range []string{"", "\xff", "\xff\xff\xff", strings.Repeat("\xff", 70000)} {
			if up, ok := tuple.Above(s + behind); up != want || !ok {
				t.Errorf("Above(%.9q) = %q, %v, want %q", s+behind, up, ok, want)
			}
		}
	}
	if up, ok := tuple.Above(strings.Repeat("\xff", 1<<20)); up != "" || ok {
		t.Errorf("Above of 2^20 bytes FF = %q, %v", up, ok)
	}
}

func TestP2_5TextsStandAsLists(t *testing.T) {
	lists := someLists()
	texts := make([]string, len(lists))
	for i, l := range lists {
		texts[i] = packed(t, l)
	}
	seen := map[int]int{}
	for i, a := range lists {
		for k, b := range lists {
			want := orderByChapter(a, b)
			seen[want]++
			if got, err := tuple.Compare(a, b); got != want || err != nil {
				t.Fatalf("Compare(%+v, %+v) = %d, %v, want %d", a, b, got, err, want)
			}
			if got := strings.Compare(texts[i], texts[k]); got != want {
				t.Fatalf("the texts of %+v and %+v stand as %d, want %d", a, b, got, want)
			}
			if (texts[i] == texts[k]) != same(a, b) {
				t.Fatalf("%+v and %+v: texts %x and %x", a, b, texts[i], texts[k])
			}
		}
	}
	if seen[-1] == 0 || seen[0] <= len(lists)-1 || seen[1] == 0 {
		t.Errorf("not all answers are asked for: %v", seen)
	}
}

func TestP2_5NoItemBeginsAnother(t *testing.T) {
	all := someItems()
	for _, a := range all {
		for _, b := range all {
			s, other := packed(t, items(a)), packed(t, items(b))
			if strings.HasPrefix(other, s) && !same(items(a), items(b)) {
				t.Errorf("%x of %+v begins %x of %+v", s, a, other, b)
			}
		}
	}
}

func TestP2_5Beginnings(t *testing.T) {
	lists := someLists()
	count := 0
	for _, l := range lists {
		for _, p := range lists {
			want := len(p) <= len(l) && same(l[:min(len(p), len(l))], p)
			if want {
				count++
			}
			s, begin := packed(t, l), packed(t, p)
			if strings.HasPrefix(s, begin) != want {
				t.Fatalf("%x of %+v, %x of %+v", s, l, begin, p)
			}
			if up, ok := tuple.Above(begin); ok && (s >= begin && s < up) != want {
				t.Fatalf("%x is not between %x and %x as its items say", s, begin, up)
			}
		}
	}
	if count <= 2*len(lists) {
		t.Errorf("only %d beginnings: the test is wrong", count)
	}
}

func TestP2_6OneBehindAnother(t *testing.T) {
	lists := someLists()
	for i, a := range lists {
		for k := range 40 {
			b := lists[(i*31+k*17)%len(lists)]
			if s := packed(t, slices.Concat(a, b)); s != packed(t, a)+packed(t, b) {
				t.Fatalf("%+v with %+v behind it: %x", a, b, s)
			}
		}
	}
	full := append(times(15, null()), text(strings.Repeat("a", 65536-15-3)))
	for cut := range len(full) + 1 {
		if s := packed(t, full); s != packed(t, full[:cut])+packed(t, full[cut:]) {
			t.Errorf("16 items of 65536 bytes, cut at %d", cut)
		}
	}
}

// roomy is a list like l, inner ones too, with room behind each in which something lies.
func roomy(l []api.Item) []api.Item {
	whole := make([]api.Item, len(l)+3)
	for i, x := range l {
		if x.Kind == api.ItemList {
			x.List = roomy(x.List)
		}
		whole[i] = x
	}
	for i := len(l); i < len(whole); i++ {
		whole[i] = api.Item{Kind: 77, Num: i, Text: "room", List: items(text("room"))}
	}
	return whole[:len(l)]
}

// listsIn gives a list and all that lie in it, with the room behind them.
func listsIn(l []api.Item) [][]api.Item {
	all := [][]api.Item{l[:cap(l)]}
	for _, x := range l {
		all = append(all, listsIn(x.List)...)
	}
	return all
}

func copies(all [][]api.Item) [][]api.Item {
	out := make([][]api.Item, len(all))
	for i, l := range all {
		out[i] = slices.Clone(l)
	}
	return out
}

func TestP2_7HandedInStays(t *testing.T) {
	lists := append(someLists(), items(flag(2)), times(17, null()), items(list(null(), api.Item{})), wrap(nil, 5), items(text(strings.Repeat("a", 70000)), null()))
	for i, l := range lists {
		a, b := roomy(l), roomy(lists[(i*13+5)%len(lists)])
		partsA, partsB := listsIn(a), listsIn(b)
		wasA, wasB := copies(partsA), copies(partsB)
		tuple.Pack(a)
		tuple.Compare(a, b)
		tuple.Compare(b, a)
		if !reflect.DeepEqual(partsA, wasA) || !reflect.DeepEqual(partsB, wasB) {
			t.Fatalf("%+v or %+v have been changed", l, lists[(i*13+5)%len(lists)])
		}
	}
}

// TestP2_7NothingIsKept asks again behind a change of what was handed in: the answers are those of what it is now.
func TestP2_7NothingIsKept(t *testing.T) {
	l := items(num(1), list(text("a")))
	first := packed(t, l)
	tuple.Compare(l, l)
	l[0].Num = 2
	l[1].List[0].Text = "b"
	if first != textByChapter(items(num(1), list(text("a")))) {
		t.Errorf("a text has been changed: %x", first)
	}
	if s := packed(t, l); s != textByChapter(l) {
		t.Errorf("Pack of a changed list = %x, want %x", s, textByChapter(l))
	}
	if c, err := tuple.Compare(l, items(num(1), list(text("a")))); c != 1 || err != nil {
		t.Errorf("Compare of a changed list = %d, %v, want 1", c, err)
	}
}

func spoil(l []api.Item) {
	for i := range l {
		l[i] = api.Item{Kind: 99, Num: 99, Text: "spoilt"}
	}
}

// alikeOutside compares items but for what lies in their lists: those are looked at by themselves.
func alikeOutside(a, b api.Item) bool {
	return a.Kind == b.Kind && a.Num == b.Num && a.Text == b.Text && len(a.List) == len(b.List)
}

// TestP2_7AnswersAreNewMemory writes into each list of an answer, the room behind it too: no other list of it, nor of another answer, changes.
func TestP2_7AnswersAreNewMemory(t *testing.T) {
	for _, l := range someLists() {
		s := textByChapter(l)
		one, _ := tuple.Unpack(s)
		other, _ := tuple.Unpack(s)
		parts := listsIn(one)
		for i, part := range parts {
			was := copies(parts)
			spoil(part)
			for k := range parts {
				if k != i && !slices.EqualFunc(parts[k], was[k], alikeOutside) {
					t.Fatalf("Unpack(%x): writing into list %d changed list %d", s, i, k)
				}
			}
			copy(part, was[i])
		}
		for _, part := range parts {
			spoil(part)
		}
		if !same(other, l) {
			t.Fatalf("Unpack(%x): writing into one answer changed another: %+v", s, other)
		}
		if third, err := tuple.Unpack(s); err != nil || !same(third, l) {
			t.Fatalf("Unpack(%x): writing into one answer changed a later one: %+v, %v", s, third, err)
		}
	}
}
