package branch_test

import (
	"encoding/binary"
	"fmt"
	"math"
	"math/rand"
	"slices"
	"strings"
	"testing"

	"copse/api"
	"copse/branch"
)

const (
	bodyLen  = 4072
	lastPage = 1<<20 - 1
)

func zeros(n int) string { return strings.Repeat("\x00", n) }

// filled is the text with zeros up to the end of a body.
func filled(text string) string { return text + zeros(bodyLen-len(text)) }

func link(key string, child int) api.Link { return api.Link{Key: key, Child: child} }

func node(first int, links ...api.Link) api.Branch { return api.Branch{First: first, Links: links} }

// keyed is a branch of these keys with unlike children.
func keyed(keys ...string) api.Branch {
	b := node(2)
	for i, key := range keys {
		b.Links = append(b.Links, link(key, 3+i))
	}
	return b
}

// parted is a branch of these children, with rising keys between them.
func parted(children ...int) api.Branch {
	b := node(children[0])
	for i, child := range children[1:] {
		b.Links = append(b.Links, link(fmt.Sprintf("%06d", i), child))
	}
	return b
}

// sized is a branch of rising links of these sizes, each of 9 to 262.
func sized(sizes ...int) api.Branch {
	b := node(2)
	for i, n := range sizes {
		key := string(binary.BigEndian.AppendUint16(nil, uint16(i)))
		b.Links = append(b.Links, link(key+strings.Repeat("k", n-9), 3+i))
	}
	return b
}

// big is a branch of that size in all, from 20 on, of links as great as can be.
func big(size int) api.Branch {
	var sizes []int
	rest := size - 6
	for ; rest > 270; rest -= 262 {
		sizes = append(sizes, 262)
	}
	if rest > 262 {
		sizes, rest = append(sizes, 9), rest-9
	}
	return sized(append(sizes, rest)...)
}

func clone(b api.Branch) api.Branch {
	return api.Branch{First: b.First, Links: append([]api.Link(nil), b.Links...)}
}

// with is the branch with another link of that number.
func with(b api.Branch, i int, l api.Link) api.Branch {
	b = clone(b)
	b.Links[i] = l
	return b
}

func same(a, b api.Branch) bool { return a.First == b.First && slices.Equal(a.Links, b.Links) }

func short(b api.Branch) string { return fmt.Sprintf("%.150q", fmt.Sprint(b)) }

// plainChild is the cell of a child, by the library.
func plainChild(n int) string { return string(binary.BigEndian.AppendUint32(nil, uint32(n))) }

func plainCell(l api.Link) string {
	return string([]byte{byte(len(l.Key))}) + l.Key + plainChild(l.Child)
}

// laid is the body of some cells, whatever they are.
func laid(l ...string) string {
	var slots []byte
	end := 2 * len(l)
	for _, cell := range l {
		end += len(cell)
		slots = binary.BigEndian.AppendUint16(slots, uint16(end))
	}
	return filled(string(slots) + strings.Join(l, ""))
}

func plainBody(b api.Branch) string {
	texts := []string{plainChild(b.First)}
	for _, l := range b.Links {
		texts = append(texts, plainCell(l))
	}
	return laid(texts...)
}

func plainSize(b api.Branch) int {
	size := 6
	for _, l := range b.Links {
		size += 7 + len(l.Key)
	}
	return size
}

func plainChildren(b api.Branch) []int {
	children := []int{b.First}
	for _, l := range b.Links {
		children = append(children, l.Child)
	}
	return children
}

// plainCheck asks for each fault by itself, one after the other.
func plainCheck(b api.Branch, root bool) error {
	if len(b.Links) == 0 {
		return api.ErrShort
	}
	for _, child := range plainChildren(b) {
		if child < 2 || child > lastPage {
			return api.ErrArg
		}
	}
	for _, l := range b.Links {
		if l.Key == "" || len(l.Key) > 255 {
			return api.ErrArg
		}
	}
	for i := range b.Links {
		if i > 0 && strings.Compare(b.Links[i-1].Key, b.Links[i].Key) >= 0 {
			return api.ErrOrder
		}
	}
	seen := map[int]bool{}
	for _, child := range plainChildren(b) {
		if seen[child] {
			return api.ErrTwice
		}
		seen[child] = true
	}
	if plainSize(b) > 4072 {
		return api.ErrMany
	}
	if !root && plainSize(b) < 1777 {
		return api.ErrShort
	}
	return nil
}

// plainDecode takes what the slots and the lengths would say, and sees whether the body of that is the same.
func plainDecode(count int, body string) (api.Branch, bool) {
	if count < 2 || count > bodyLen/2 || len(body) != bodyLen {
		return api.Branch{}, false
	}
	var texts []string
	from := 2 * count
	for i := range count {
		to := int(binary.BigEndian.Uint16([]byte(body[2*i:])))
		if to < from+4 || to > bodyLen || i > 0 && to < from+5 {
			return api.Branch{}, false
		}
		texts = append(texts, body[from:to])
		from = to
	}
	b := node(int(binary.BigEndian.Uint32([]byte(texts[0]))))
	for _, cell := range texts[1:] {
		end := len(cell) - 4
		b.Links = append(b.Links, link(cell[1:end], int(binary.BigEndian.Uint32([]byte(cell[end:])))))
	}
	return b, plainCheck(b, true) == nil && plainBody(b) == body
}

func plainPick(b api.Branch, key string) int {
	pick := 0
	for i, l := range b.Links {
		if strings.Compare(l.Key, key) <= 0 {
			pick = i + 1
		}
	}
	return pick
}

// plainPivot is the number of the link that goes up: every one is tried.
func plainPivot(b api.Branch) int {
	best, least := 0, math.MaxInt
	for i := 1; i < len(b.Links)-1; i++ {
		gap := plainSize(node(0, b.Links[:i]...)) - plainSize(node(0, b.Links[i+1:]...))
		if gap = max(gap, -gap); gap < least {
			best, least = i, gap
		}
	}
	return best
}

func randomText(r *rand.Rand, most int) string {
	text := make([]byte, r.Intn(most+1))
	r.Read(text)
	if r.Intn(4) == 0 {
		for i := range text {
			text[i] = "\x00\x01\xfe\xff"[text[i]&3]
		}
	}
	return string(text)
}

// randomBranch may be, but perhaps for its size, which is no more than room, and for having no link.
func randomBranch(r *rand.Rand, room int) api.Branch {
	most := 1 << r.Intn(8)
	children := r.Perm(1000)
	b := node(2 + children[0])
	for _, child := range children[:1+r.Intn(600)][1:] {
		key := randomText(r, most-1) + string([]byte{byte(r.Intn(256))})
		place, found := slices.BinarySearchFunc(b.Links, key, func(l api.Link, key string) int { return strings.Compare(l.Key, key) })
		if !found && plainSize(b)+7+len(key) <= room {
			b.Links = slices.Insert(b.Links, place, link(key, 2+child))
		}
	}
	if r.Intn(2) == 0 {
		b.First = lastPage
	}
	return b
}

// wildBranch is one of few or great links, of which some may not be, often out of order.
func wildBranch(r *rand.Rand) api.Branch {
	long := strings.Repeat("k", 256)
	keys := []string{"a", "b", "b\x00", "c", "\x00", "\xff", "\xff\xff", long[:255], "ab", "d"}
	for i := range 20 {
		keys = append(keys, strings.Repeat(string([]byte{byte('f' + i)}), 255))
	}
	b := node(2 + r.Intn(40))
	for range r.Intn(1 + r.Intn(120)) {
		b.Links = append(b.Links, link(keys[r.Intn(len(keys))], 50+r.Intn(10000)))
	}
	if r.Intn(6) > 0 {
		slices.SortStableFunc(b.Links, func(a, b api.Link) int { return strings.Compare(a.Key, b.Key) })
	}
	if r.Intn(6) > 0 {
		b.Links = slices.CompactFunc(b.Links, func(a, b api.Link) bool { return a.Key == b.Key })
	}
	if len(b.Links) > 0 && r.Intn(4) == 0 {
		children := plainChildren(b)
		b.Links[r.Intn(len(b.Links))].Child = children[r.Intn(len(children))]
	}
	if len(b.Links) > 0 && r.Intn(12) == 0 {
		b.Links[r.Intn(len(b.Links))].Key = []string{"", long}[r.Intn(2)]
	}
	if len(b.Links) > 0 && r.Intn(12) == 0 {
		b.Links[r.Intn(len(b.Links))].Child = []int{1, 0, -1, 1 << 20}[r.Intn(4)]
	}
	if r.Intn(20) == 0 {
		b.First = []int{1, 0, -2, 1 << 20, 1<<32 + 2}[r.Intn(5)]
	}
	return b
}

// branches may be a root: ordinary ones and those at the edges.
func branches() []api.Branch {
	k := strings.Repeat("k", 255)
	var bytes []string
	for i := range 256 {
		bytes = append(bytes, string([]byte{byte(i)}))
	}
	return []api.Branch{
		node(2, link("m", 3)), node(3, link("m", 2)), node(lastPage, link("m", 2)), node(2, link("m", lastPage)), node(256, link("m", 257)), node(65536, link("m", 65535), link("n", 65537)), node(1<<19, link("m", 1<<19+1)), node(9, link("a", 8), link("b", 7), link("c", 6)),
		keyed(k), keyed(k[:254]), keyed(k[:254], k), keyed(k[:127], k[:128], k[:129]), keyed("a", "ab", "b"), keyed("\x00"), keyed("\xff"), keyed("\x00", "\x00\x00", "\x00\xff", "\xff", "\xff\x00", "\xff\xff"), keyed(zeros(255)), keyed(zeros(254), zeros(255)), keyed(bytes...),
		big(1776), big(1777), big(1778), big(4071), big(4072), sized(slices.Repeat([]int{9}, 451)...), sized(append(slices.Repeat([]int{9}, 450), 16)...), sized(slices.Repeat([]int{19}, 214)...), sized(262, 9), sized(9, 262),
	}
}

func wantSize(t *testing.T, what string, b api.Branch, want int) {
	t.Helper()
	if got := branch.Size(b); got != want {
		t.Errorf("Size of %s: %d, want %d", what, got, want)
	}
}

func wantCheck(t *testing.T, what string, b api.Branch, root bool, want error) {
	t.Helper()
	if got := branch.Check(b, root); got != want {
		t.Errorf("Check of %s, root %v: %v, want %v", what, root, got, want)
	}
}

// wantBoth asks for the same answer for a root and for another branch.
func wantBoth(t *testing.T, what string, b api.Branch, want error) {
	t.Helper()
	wantCheck(t, what, b, true, want)
	wantCheck(t, what, b, false, want)
}

func wantBody(t *testing.T, what string, b api.Branch, want string) {
	t.Helper()
	got, err := branch.Encode(b)
	if err != nil || len(got) != bodyLen {
		t.Fatalf("Encode of %s: %d bytes, %v, want a body", what, len(got), err)
	}
	for i := range got {
		if got[i] != want[i] {
			t.Fatalf("Encode of %s: byte %d is %d, want %d", what, i, got[i], want[i])
		}
	}
}

func wantNoBody(t *testing.T, what string, b api.Branch, want error) {
	t.Helper()
	if got, err := branch.Encode(b); got != "" || err != want || err == nil {
		t.Errorf("Encode of %s: %d bytes, %v, want none, %v", what, len(got), err, want)
	}
}

func wantRead(t *testing.T, what string, count int, body string, want api.Branch) {
	t.Helper()
	got, err := branch.Decode(count, body)
	if err != nil || len(want.Links) != count-1 || !same(got, want) {
		t.Errorf("Decode of %s: %s, %v, want %s", what, short(got), err, short(want))
	}
}

// wantNone asks for the zero branch and that error.
func wantNone(t *testing.T, what string, got api.Branch, err, want error) {
	t.Helper()
	if got.First != 0 || len(got.Links) != 0 || err != want || err == nil {
		t.Errorf("%s: %s, %v, want none, %v", what, short(got), err, want)
	}
}

func wantNotRead(t *testing.T, what string, count int, body string) {
	t.Helper()
	got, err := branch.Decode(count, body)
	wantNone(t, "Decode of "+what, got, err, api.ErrText)
}

// wantAsPlain holds Decode against the chapter's words.
func wantAsPlain(t *testing.T, what string, count int, body string) {
	t.Helper()
	if want, ok := plainDecode(count, body); ok {
		wantRead(t, what, count, body, want)
	} else {
		wantNotRead(t, what, count, body)
	}
}

func wantPick(t *testing.T, b api.Branch, key string, want int) {
	t.Helper()
	if got := branch.Pick(b, key); got != want {
		t.Errorf("Pick(%s, %.20q): %d, want %d", short(b), key, got, want)
	}
}

func wantChild(t *testing.T, b api.Branch, i, want int) {
	t.Helper()
	if got, err := branch.Child(b, i); got != want || err != nil {
		t.Errorf("Child(%s, %d): %d, %v, want %d", short(b), i, got, err, want)
	}
}

func wantNoChild(t *testing.T, b api.Branch, i int) {
	t.Helper()
	if got, err := branch.Child(b, i); got != 0 || err != api.ErrArg {
		t.Errorf("Child(%s, %d): %d, %v, want 0, ErrArg", short(b), i, got, err)
	}
}

func wantBranch(t *testing.T, what string, got api.Branch, err error, want api.Branch) {
	t.Helper()
	if err != nil || !same(got, want) {
		t.Errorf("%s: %s, %v, want %s", what, short(got), err, short(want))
	}
}

func wantPut(t *testing.T, b api.Branch, i, child int, want api.Branch) {
	t.Helper()
	got, err := branch.Put(b, i, child)
	wantBranch(t, fmt.Sprintf("Put(%s, %d, %d)", short(b), i, child), got, err, want)
}

func wantInsert(t *testing.T, b api.Branch, i int, l api.Link, want api.Branch) {
	t.Helper()
	got, err := branch.Insert(b, i, l)
	wantBranch(t, fmt.Sprintf("Insert(%s, %d, %.20q)", short(b), i, l.Key), got, err, want)
}

func wantRemove(t *testing.T, b api.Branch, i int, want api.Branch) {
	t.Helper()
	got, err := branch.Remove(b, i)
	wantBranch(t, fmt.Sprintf("Remove(%s, %d)", short(b), i), got, err, want)
}

func wantCut(t *testing.T, what string, b api.Branch, up int) {
	t.Helper()
	left, key, right, err := branch.Cut(b)
	wantLeft, wantRight := node(b.First, b.Links[:up]...), node(b.Links[up].Child, b.Links[up+1:]...)
	if err != nil || key != b.Links[up].Key || !same(left, wantLeft) || !same(right, wantRight) {
		t.Errorf("Cut of %s: %s, %.20q, %s, %v, want link %d up", what, short(left), key, short(right), err, up)
	}
}

func wantNoCut(t *testing.T, what string, b api.Branch, want error) {
	t.Helper()
	left, key, right, err := branch.Cut(b)
	wantNone(t, "Cut's left of "+what, left, err, want)
	wantNone(t, "Cut's right of "+what, right, err, want)
	if key != "" {
		t.Errorf("Cut of %s: a key %.20q beside %v", what, key, err)
	}
}

func wantJoin(t *testing.T, a api.Branch, key string, b, want api.Branch) {
	t.Helper()
	if got := branch.Join(a, key, b); !same(got, want) {
		t.Errorf("Join(%s, %.20q, %s): %s, want %s", short(a), key, short(b), short(got), short(want))
	}
}

func TestP8_1_Size(t *testing.T) {
	x := strings.Repeat("x", 70000)
	for i, c := range []struct {
		b    api.Branch
		want int
	}{
		{api.Branch{}, 6}, {node(2, []api.Link{}...), 6}, {node(-5), 6}, {node(math.MaxInt), 6}, {node(2, link("m", 3)), 14}, {node(2, link("", 3)), 13}, {node(0, link("", 0), link("", 0)), 20}, {node(2, link("ä", 3), link("b", 4)), 23}, {keyed("b", "a", "a"), 30}, {keyed("\x00", "\x00\x00"), 23},
		{keyed(x[:255]), 268}, {keyed(x[:256]), 269}, {keyed(x), 70013}, {node(2, make([]api.Link, 100000)...), 700006}, {node(2, slices.Repeat([]api.Link{link(x, 3)}, 50000)...), 6 + 50000*70007}, {big(1776), 1776}, {big(1777), 1777}, {big(4072), 4072}, {big(4073), 4073}, {big(7884), 7884},
	} {
		wantSize(t, fmt.Sprintf("branch %d", i), c.b, c.want)
	}
	r := rand.New(rand.NewSource(81))
	for range 300 {
		b := randomBranch(r, 10000)
		wantSize(t, short(b), b, plainSize(b))
	}
}

func TestP8_2_NoFault(t *testing.T) {
	for i, b := range branches() {
		what := fmt.Sprintf("branch %d", i)
		wantCheck(t, what, b, true, nil)
		wantCheck(t, what, b, false, plainCheck(b, false))
	}
}

func TestP8_2_NoLink(t *testing.T) {
	for _, first := range []int{2, 3, lastPage, 1, 0, -1, 1 << 20, math.MinInt, math.MaxInt} {
		wantBoth(t, fmt.Sprintf("no link, first %d", first), node(first), api.ErrShort)
		wantBoth(t, fmt.Sprintf("an empty list, first %d", first), api.Branch{First: first, Links: []api.Link{}}, api.ErrShort)
	}
}

func TestP8_2_Keys(t *testing.T) {
	x := strings.Repeat("x", 70000)
	for _, n := range []int{1, 2, 127, 128, 254, 255} {
		wantCheck(t, fmt.Sprintf("a key of %d", n), keyed(x[:n]), true, nil)
	}
	for _, n := range []int{0, 256, 257, 511, 512, 65536, 65537} {
		wantBoth(t, fmt.Sprintf("a key of %d", n), keyed(x[:n]), api.ErrArg)
		for at := range 4 {
			b := with(keyed("a", "b", "y", "z"), at, link(x[:n], 9))
			wantBoth(t, fmt.Sprintf("a key of %d at %d", n, at), b, api.ErrArg)
		}
	}
}

func TestP8_2_Children(t *testing.T) {
	for _, n := range []int{2, 3, 255, 256, 65535, 65536, lastPage - 1, lastPage} {
		other := 10
		wantCheck(t, fmt.Sprintf("first %d", n), node(n, link("m", other)), true, nil)
		wantCheck(t, fmt.Sprintf("a child %d", n), node(other, link("m", n)), true, nil)
		wantCheck(t, fmt.Sprintf("a last child %d", n), node(other, link("m", other+1), link("n", n)), true, nil)
	}
	for _, n := range []int{1, 0, -1, -2, -lastPage, math.MinInt, math.MinInt + 2, 1 << 20, 1<<20 + 1, 1 << 31, 1 << 32, 1<<32 + 2, 1<<40 + 5, 1<<62 + 2, math.MaxInt} {
		wantBoth(t, fmt.Sprintf("first %d", n), node(n, link("m", 10)), api.ErrArg)
		for at := range 4 {
			b := with(keyed("a", "b", "c", "d"), at, link("abcd"[at:at+1], n))
			wantBoth(t, fmt.Sprintf("a child %d at %d", n, at), b, api.ErrArg)
		}
	}
}

func TestP8_2_Order(t *testing.T) {
	rising := []string{"\x00", "\x00\x00", "\x00\x01", "\x00\xff", "\x01", "A", "a", "a\x00", "a\x00\xff", "aa", "ab", "b", "ba", "\x7f", "\x80", "\xc3", "\xc3\xa4", "\xfe", "\xff", "\xff\x00", "\xff\xff", "\xff\xff\xff"}
	wantCheck(t, "all keys", keyed(rising...), true, nil)
	for i, a := range rising {
		for j, b := range rising {
			want := api.ErrOrder
			if i < j {
				want = nil
			}
			wantCheck(t, fmt.Sprintf("%q, %q", a, b), keyed(a, b), true, want)
		}
	}
	for i := range len(rising) - 1 {
		keys := slices.Clone(rising)
		keys[i], keys[i+1] = keys[i+1], keys[i]
		wantBoth(t, fmt.Sprintf("keys out of order at %d", i), keyed(keys...), api.ErrOrder)
		keys[i] = keys[i+1]
		wantBoth(t, fmt.Sprintf("equal keys at %d", i), keyed(keys...), api.ErrOrder)
	}
	wantBoth(t, "a key that comes again far behind", keyed("a", "b", "c", "a"), api.ErrOrder)
	wantBoth(t, "the same link twice", node(2, link("a", 3), link("a", 3)), api.ErrOrder)
}

func TestP8_2_Twins(t *testing.T) {
	children := []int{9, 4, 700, 2, lastPage, 30, 3}
	wantCheck(t, "unlike children", parted(children...), true, nil)
	for i := range children {
		for j := range i {
			twins := slices.Clone(children)
			twins[i] = twins[j]
			wantBoth(t, fmt.Sprintf("the same child at %d and %d", j, i), parted(twins...), api.ErrTwice)
		}
	}
	wantBoth(t, "one child thrice", parted(5, 5, 5), api.ErrTwice)
	wantCheck(t, "children that fall", parted(9, 8, 7, 6), true, nil)
	wantCheck(t, "neighbours", parted(2, 3, 4, 5, 6), true, nil)
}

func TestP8_2_Sizes(t *testing.T) {
	for _, c := range []struct {
		size        int
		root, other error
	}{
		{20, nil, api.ErrShort}, {268, nil, api.ErrShort}, {1555, nil, api.ErrShort}, {1556, nil, api.ErrShort}, {1775, nil, api.ErrShort}, {1776, nil, api.ErrShort}, {1777, nil, nil}, {1778, nil, nil}, {4071, nil, nil}, {4072, nil, nil}, {4073, api.ErrMany, api.ErrMany}, {4074, api.ErrMany, api.ErrMany}, {7884, api.ErrMany, api.ErrMany}, {7885, api.ErrMany, api.ErrMany}, {100000, api.ErrMany, api.ErrMany},
	} {
		b := big(c.size)
		if plainSize(b) != c.size {
			t.Fatalf("a branch of %d bytes has %d", c.size, plainSize(b))
		}
		wantCheck(t, fmt.Sprintf("%d bytes", c.size), b, true, c.root)
		wantCheck(t, fmt.Sprintf("%d bytes", c.size), b, false, c.other)
	}
	for _, c := range []struct {
		n           int
		root, other error
	}{{1, nil, api.ErrShort}, {196, nil, api.ErrShort}, {197, nil, nil}, {451, nil, nil}, {452, api.ErrMany, api.ErrMany}, {60000, api.ErrMany, api.ErrMany}} {
		b := sized(slices.Repeat([]int{9}, c.n)...)
		wantCheck(t, fmt.Sprintf("%d small links", c.n), b, true, c.root)
		wantCheck(t, fmt.Sprintf("%d small links", c.n), b, false, c.other)
	}
}

// A link that may not be counts ahead of all that comes behind it in the list of faults, wherever it stands.
func TestP8_2_BadLinksFirst(t *testing.T) {
	long, many := strings.Repeat("k", 256), big(5000)
	falling, twins := keyed("b", "a"), parted(5, 6, 5)
	for _, bad := range []api.Link{link("", 900), link(long, 900), link("mm", 1), link("mm", 1<<20), link("mm", -1), {}} {
		for _, b := range []api.Branch{falling, twins, keyed("a", "b"), many, node(2, append([]api.Link{link("\xff", 3000)}, many.Links...)...)} {
			for at := range len(b.Links) + 1 {
				b := clone(b)
				b.Links = slices.Insert(b.Links, at, bad)
				wantBoth(t, fmt.Sprintf("a bad link at %d of %d", at, len(b.Links)), b, api.ErrArg)
			}
		}
	}
	for _, b := range []api.Branch{falling, twins, keyed("a", "b"), many} {
		b.First = 1
		wantBoth(t, "a bad first child", b, api.ErrArg)
	}
	wantBoth(t, "a bad first child twice", parted(0, 0), api.ErrArg)
	wantBoth(t, "a key that is too long for a body", keyed(zeros(5000)), api.ErrArg)
}

func TestP8_2_SeveralFaults(t *testing.T) {
	many := big(5000)
	last := len(many.Links) - 1
	wantBoth(t, "twins ahead, out of order behind", node(2, link("a", 3), link("b", 3), link("a", 4)), api.ErrOrder)
	wantBoth(t, "out of order ahead, twins behind", node(2, link("b", 3), link("a", 4), link("c", 4)), api.ErrOrder)
	wantBoth(t, "the first child twice and out of order", node(2, link("b", 2), link("a", 3)), api.ErrOrder)
	wantBoth(t, "too many, out of order behind", with(many, last, link("\x00", 900)), api.ErrOrder)
	wantBoth(t, "too many, out of order ahead", with(many, 0, link("\xff", 900)), api.ErrOrder)
	wantBoth(t, "too many, twins ahead", with(many, 0, link(many.Links[0].Key, 2)), api.ErrTwice)
	wantBoth(t, "too many, twins behind", with(many, last, link(many.Links[last].Key, 2)), api.ErrTwice)
	wantBoth(t, "too many, the last two twins", with(many, last, link(many.Links[last].Key, many.Links[last-1].Child)), api.ErrTwice)
	wantBoth(t, "too few and twins", parted(2, 3, 3), api.ErrTwice)
	wantBoth(t, "too few, out of order", keyed("b", "a"), api.ErrOrder)
	r := rand.New(rand.NewSource(82))
	seen := map[error]int{}
	for range 5000 {
		b := wildBranch(r)
		for _, root := range []bool{true, false} {
			want := plainCheck(b, root)
			seen[want]++
			wantCheck(t, short(b), b, root, want)
		}
	}
	for _, err := range []error{nil, api.ErrArg, api.ErrOrder, api.ErrTwice, api.ErrMany, api.ErrShort} {
		if seen[err] < 100 {
			t.Errorf("only %d of the branches were for %v", seen[err], err)
		}
	}
}

func TestP8_3_EveryByte(t *testing.T) {
	for i, b := range branches() {
		wantBody(t, fmt.Sprintf("branch %d", i), b, plainBody(b))
	}
	r := rand.New(rand.NewSource(83))
	for range 500 {
		if b := randomBranch(r, bodyLen); len(b.Links) > 0 {
			wantBody(t, short(b), b, plainBody(b))
		}
	}
}

func TestP8_3_Numbers(t *testing.T) {
	k := strings.Repeat("k", 255)
	wantBody(t, "the greatest child and a long key", node(lastPage, link(k, 0x10203)), filled("\x00\x08\x01\x0c\x00\x0f\xff\xff\xff"+k+"\x00\x01\x02\x03"))
	wantBody(t, "two links", node(0x4567, link("\x00", 0xabcde), link("zz", 2)), filled("\x00\x0a\x00\x10\x00\x17\x00\x00\x45\x67\x01\x00\x00\x0a\xbc\xde\x02zz\x00\x00\x00\x02"))
}

func TestP8_3_Refusals(t *testing.T) {
	wantNoBody(t, "none", api.Branch{}, api.ErrShort)
	wantNoBody(t, "no link", node(2), api.ErrShort)
	wantNoBody(t, "no link and a bad child", node(1), api.ErrShort)
	wantNoBody(t, "an empty key", keyed(""), api.ErrArg)
	wantNoBody(t, "a key of 256", keyed(strings.Repeat("k", 256)), api.ErrArg)
	wantNoBody(t, "a key of 257", keyed(strings.Repeat("k", 257)), api.ErrArg)
	wantNoBody(t, "a first child 1", node(1, link("m", 3)), api.ErrArg)
	wantNoBody(t, "a child -1", node(2, link("m", -1)), api.ErrArg)
	wantNoBody(t, "a child 2^32 + 2", node(3, link("m", 1<<32+2)), api.ErrArg)
	wantNoBody(t, "keys that fall", keyed("b", "a"), api.ErrOrder)
	wantNoBody(t, "equal keys", keyed("a", "a"), api.ErrOrder)
	wantNoBody(t, "twins", parted(2, 3, 2), api.ErrTwice)
	wantNoBody(t, "4073 bytes", big(4073), api.ErrMany)
	wantNoBody(t, "too many and twins", with(big(5000), 0, link("\x00\x00", 2)), api.ErrTwice)
	r := rand.New(rand.NewSource(84))
	for range 2000 {
		b := wildBranch(r)
		if want := plainCheck(b, true); want != nil {
			wantNoBody(t, short(b), b, want)
		} else {
			wantBody(t, short(b), b, plainBody(b))
		}
	}
}

func TestP8_4_Branches(t *testing.T) {
	for i, b := range branches() {
		wantRead(t, fmt.Sprintf("branch %d", i), len(b.Links)+1, plainBody(b), b)
	}
}

func TestP8_4_OtherCounts(t *testing.T) {
	far := []int{-1, -2, math.MinInt, math.MinInt + 1, -1 << 62, -1 << 32, 0, 1, 814, 1357, 2036, 2037, 4072, 65536, 1<<32 + 2, 1<<62 + 2, math.MaxInt}
	for i, b := range branches() {
		body, count := plainBody(b), len(b.Links)+1
		for _, other := range append(far, count-1, count+1, 2*count) {
			wantNotRead(t, fmt.Sprintf("branch %d by the count %d", i, other), other, body)
		}
	}
	for count := -1; count <= 2037; count++ {
		wantNotRead(t, fmt.Sprintf("zeros by the count %d", count), count, zeros(bodyLen))
	}
	wantNotRead(t, "a first child alone", 1, laid(plainChild(2)))
}

func TestP8_4_OtherLengths(t *testing.T) {
	for i, b := range branches() {
		body, count := plainBody(b), len(b.Links)+1
		for _, other := range []string{"", body[:1], body[:2*count], body[:bodyLen-1], body[1:], body + "\x00", body + "x", "\x00" + body, body + body} {
			wantNotRead(t, fmt.Sprintf("branch %d in %d bytes", i, len(other)), count, other)
		}
	}
	for _, n := range []int{0, 1, 4071, 4073, 4096, 1 << 20} {
		for _, count := range []int{-1, 0, 1, 2} {
			wantNotRead(t, fmt.Sprintf("%d zeros by the count %d", n, count), count, zeros(n))
		}
	}
}

func TestP8_4_FirstCells(t *testing.T) {
	behind := plainCell(link("m", 3))
	wantRead(t, "a first cell of four bytes", 2, laid("\x00\x00\x00\x05", behind), node(5, link("m", 3)))
	for _, cell := range []string{"", "\x05", "\x00\x05", "\x00\x00\x05", "\x00\x00\x00\x00\x05", "\x00\x00\x00\x05\x00", "\x00\x00\x00\x00\x00\x00\x00\x05", "\x01a\x00\x00\x00\x05", "\x00\x00\x00\x00", "\x00\x00\x00\x01", "\x00\x10\x00\x00", "\x01\x00\x00\x05", "\x80\x00\x00\x05", "\xff\xff\xff\xff", "\x00\x00\x00\x03"} {
		wantNotRead(t, fmt.Sprintf("a first cell %q", cell), 2, laid(cell, behind))
	}
}

func TestP8_4_CellsOfNoLink(t *testing.T) {
	k, first := strings.Repeat("k", 300), plainChild(2)
	for _, cell := range []string{
		"", "\x00", "\x00\x00\x00\x09", "\x01\x00\x00\x00", "\x00\x00\x00\x00\x09", "\x01\x00\x00\x00\x09", "\x01m\x00\x00\x09", "\x01m\x00\x00\x00\x00\x09", "\x01mm\x00\x00\x00\x09", "\x02m\x00\x00\x00\x09", "\x00m\x00\x00\x00\x09", "\x03mm\x00\x00\x00\x09", "\xffm\x00\x00\x00\x09", "\x05m\x00\x00\x00\x09",
		"\x01m\x00\x00\x00\x00", "\x01m\x00\x00\x00\x01", "\x01m\x00\x10\x00\x00", "\x01m\x01\x00\x00\x09", "\x01m\x80\x00\x00\x09", "\x01m\xff\xff\xff\xff", "\x01m\x00\x00\x00\x02",
		"\x00" + k[:256] + "\x00\x00\x00\x09", "\xff" + k[:254] + "\x00\x00\x00\x09", "\xff" + k[:256] + "\x00\x00\x00\x09", "\x2c" + k + "\x00\x00\x00\x09", "\x01" + k[:257] + "\x00\x00\x00\x09",
	} {
		what := fmt.Sprintf("a cell %.20q", cell)
		ahead, behind := plainCell(link("\x00", 7)), plainCell(link("zz", 8))
		wantNotRead(t, what, 2, laid(first, cell))
		wantNotRead(t, what+" ahead", 3, laid(first, cell, behind))
		wantNotRead(t, what+" behind", 3, laid(first, ahead, cell))
		wantNotRead(t, what+" between", 4, laid(first, ahead, cell, behind))
	}
	wantRead(t, "a cell of a link", 2, laid(first, "\x01m\x00\x00\x00\x09"), node(2, link("m", 9)))
	wantRead(t, "a cell of the longest key", 2, laid(first, "\xff"+k[:255]+"\x00\x0f\xff\xff"), node(2, link(k[:255], lastPage)))
}

func TestP8_4_BranchesThatMayNotBe(t *testing.T) {
	for _, keys := range [][]string{{"b", "a"}, {"a", "a"}, {"ab", "a"}, {"a\x00", "a"}, {"\x00\x00", "\x00"}, {"\xff", "\x00"}, {"a", "c", "b"}, {"b", "a", "c"}, {"a", "b", "b"}, {"a", "b", "a"}} {
		b := keyed(keys...)
		wantNotRead(t, fmt.Sprintf("%q", keys), len(keys)+1, plainBody(b))
	}
	for _, children := range [][]int{{2, 2}, {2, 3, 2}, {2, 3, 3}, {4, 3, 5, 3}, {1, 3}, {2, 1}, {0, 3}, {2, 0}, {1 << 20, 3}, {2, 1 << 20}, {2, 3, 1}, {2, 1<<32 - 1}} {
		b := parted(children...)
		wantNotRead(t, fmt.Sprint(children), len(children), plainBody(b))
	}
}

func TestP8_4_OneByteChanged(t *testing.T) {
	b := node(0x30201, link("a", 0x102), link("bb", 3), link("c", 0x20000))
	body := []byte(plainBody(b))
	for place := range body {
		was := body[place]
		for _, other := range []byte{was + 1, was - 1, was ^ 0x80, was ^ 2, was ^ 0x10, 0, 0xff, 'a', 'b', 3} {
			body[place] = other
			wantAsPlain(t, fmt.Sprintf("a body with the byte %d at %d", other, place), 4, string(body))
		}
		body[place] = was
	}
}

func TestP8_4_RandomBodies(t *testing.T) {
	r := rand.New(rand.NewSource(85))
	read := 0
	for range 5000 {
		texts := []string{plainChild(1 + r.Intn(9))}
		for range r.Intn(4) {
			texts = append(texts, plainCell(link(randomText(r, 2), 1+r.Intn(20))))
		}
		at := r.Intn(len(texts))
		switch cell := texts[at]; r.Intn(9) {
		case 0:
			texts[at] = cell[1:]
		case 1:
			texts[at] = cell[:len(cell)-1]
		case 2:
			texts[at] += "\x00"
		case 3:
			texts[at] = randomText(r, 6)
		}
		body := laid(texts...)
		wantAsPlain(t, fmt.Sprintf("cells %q", texts), len(texts), body)
		if b, err := branch.Decode(len(texts), body); err == nil {
			read++
			wantBody(t, "what was read", b, body)
		}
	}
	if read < 100 {
		t.Errorf("only %d bodies were a branch's", read)
	}
}

func TestP8_4_EncodeAndDecodeUndoOneAnother(t *testing.T) {
	r := rand.New(rand.NewSource(86))
	for range 1000 {
		b := randomBranch(r, bodyLen)
		if len(b.Links) == 0 {
			continue
		}
		body, err := branch.Encode(b)
		if err != nil {
			t.Fatal(err)
		}
		count := len(b.Links) + 1
		wantRead(t, "what was encoded", count, body, b)
		wantNotRead(t, "one fewer", count-1, body)
		wantNotRead(t, "one more", count+1, body)
		again, _ := branch.Decode(count, body)
		wantBody(t, "what was decoded", again, body)
	}
}

func TestP8_5_Pick(t *testing.T) {
	b := keyed("\x00", "a", "a\x00", "ab", "c", "\xff")
	for i, l := range b.Links {
		wantPick(t, b, l.Key, i+1)
	}
	for _, c := range []struct {
		key  string
		want int
	}{{"", 0}, {"\x00\x00", 1}, {"A", 1}, {"`\xff", 1}, {"a\x00\x00", 3}, {"aa", 3}, {"aa\xff", 3}, {"b", 4}, {"c\x00", 5}, {"\xfe\xff", 5}, {"\xff\x00", 6}, {"\xff\xff", 6}, {strings.Repeat("\xff", 300), 6}, {strings.Repeat("a", 300), 3}} {
		wantPick(t, b, c.key, c.want)
	}
	wantPick(t, api.Branch{}, "", 0)
	wantPick(t, node(2), "a", 0)
	wantPick(t, node(2, []api.Link{}...), "a", 0)
	wantPick(t, keyed(""), "", 1)
	wantPick(t, keyed("", "a"), "\x00", 1)
	long := strings.Repeat("k", 300)
	wantPick(t, keyed("a", long), long, 2)
	wantPick(t, keyed("a", long), long[:299], 1)
	r := rand.New(rand.NewSource(87))
	for range 200 {
		b := randomBranch(r, bodyLen)
		for range 20 {
			key := randomText(r, 4)
			wantPick(t, b, key, plainPick(b, key))
		}
	}
}

func TestP8_5_LinksThatDoNotRise(t *testing.T) {
	wantPick(t, keyed("m", "a"), "b", 2)
	wantPick(t, keyed("c", "b", "a"), "b", 3)
	wantPick(t, keyed("a", "z", "b", "z"), "c", 3)
	wantPick(t, keyed("a", "a", "a"), "a", 3)
	wantPick(t, keyed("z", "y", "x", "w", "v"), "u", 0)
	wantPick(t, keyed("z", "a", "z", "z", "z", "z"), "b", 2)
	wantPick(t, keyed("a", "z", "z", "z", "z", "z"), "b", 1)
	r := rand.New(rand.NewSource(88))
	for range 3000 {
		b := wildBranch(r)
		for _, key := range []string{"", "a", "b", "c", "d\x00", "g", "\xff", randomText(r, 3)} {
			wantPick(t, b, key, plainPick(b, key))
		}
	}
}

// numbersOf are those from one ahead of the first to one behind the last of n, and some far off, which are none.
func numbersOf(n int) (inside, outside []int) {
	for i := range n {
		inside = append(inside, i)
	}
	return inside, []int{-1, n, n + 1, -2, -n, -n - 1, math.MinInt, math.MinInt + 1, -1 << 32, 1 << 32, 1<<32 + 1, 1 << 40, math.MaxInt - 1, math.MaxInt}
}

// anyBranches are such that may be and such that may not.
func anyBranches() []api.Branch {
	x := strings.Repeat("x", 5000)
	return append(branches(), api.Branch{}, node(-7), api.Branch{First: 3, Links: []api.Link{}}, keyed("c", "a", "b"), keyed("a", "a"), parted(5, 5, 5), node(math.MinInt, link(x, math.MaxInt), link("", -1)), big(4073), big(7884))
}

func TestP8_6_Child(t *testing.T) {
	for _, b := range anyBranches() {
		children := plainChildren(b)
		inside, outside := numbersOf(len(children))
		for _, i := range inside {
			wantChild(t, b, i, children[i])
		}
		for _, i := range outside {
			if i != 0 {
				wantNoChild(t, b, i)
			}
		}
	}
}

func TestP8_6_Put(t *testing.T) {
	wantPut(t, node(2, link("f", 3), link("m", 4)), 0, 9, node(9, link("f", 3), link("m", 4)))
	wantPut(t, node(2, link("f", 3), link("m", 4)), 1, 9, node(2, link("f", 9), link("m", 4)))
	wantPut(t, node(2, link("f", 3), link("m", 4)), 2, 9, node(2, link("f", 3), link("m", 9)))
	for _, b := range anyBranches() {
		inside, outside := numbersOf(len(b.Links) + 1)
		for _, i := range inside {
			for _, child := range []int{77, 0, -1, b.First, math.MinInt, math.MaxInt} {
				want := clone(b)
				if i == 0 {
					want.First = child
				} else {
					want.Links[i-1].Child = child
				}
				wantPut(t, b, i, child, want)
			}
		}
		for _, i := range outside {
			got, err := branch.Put(b, i, 77)
			wantNone(t, fmt.Sprintf("Put(%s, %d)", short(b), i), got, err, api.ErrArg)
		}
	}
}

func TestP8_6_Insert(t *testing.T) {
	l := link("f", 9)
	wantInsert(t, node(2), 0, l, node(2, l))
	wantInsert(t, node(2, link("m", 3)), 0, l, node(2, l, link("m", 3)))
	wantInsert(t, node(2, link("m", 3)), 1, l, node(2, link("m", 3), l))
	wantInsert(t, node(2, link("a", 3), link("m", 4)), 1, l, node(2, link("a", 3), l, link("m", 4)))
	long := strings.Repeat("k", 5000)
	for _, b := range anyBranches() {
		inside, outside := numbersOf(len(b.Links) + 1)
		for _, i := range inside {
			for _, l := range []api.Link{{}, link("m", 9), link("\x00", b.First), link("\xff", -1), link(long, math.MaxInt)} {
				want := node(b.First)
				want.Links = append(want.Links, b.Links[:i]...)
				want.Links = append(want.Links, l)
				want.Links = append(want.Links, b.Links[i:]...)
				wantInsert(t, b, i, l, want)
			}
		}
		for _, i := range outside {
			got, err := branch.Insert(b, i, l)
			wantNone(t, fmt.Sprintf("Insert(%s, %d)", short(b), i), got, err, api.ErrArg)
		}
	}
}

func TestP8_6_Remove(t *testing.T) {
	b := node(2, link("f", 9), link("m", 3), link("z", 4))
	wantRemove(t, b, 0, node(2, link("m", 3), link("z", 4)))
	wantRemove(t, b, 1, node(2, link("f", 9), link("z", 4)))
	wantRemove(t, b, 2, node(2, link("f", 9), link("m", 3)))
	wantRemove(t, node(2, link("f", 9)), 0, node(2))
	for _, b := range anyBranches() {
		inside, outside := numbersOf(len(b.Links))
		for _, i := range inside {
			want := node(b.First)
			want.Links = append(want.Links, b.Links[:i]...)
			want.Links = append(want.Links, b.Links[i+1:]...)
			wantRemove(t, b, i, want)
		}
		for _, i := range outside {
			if i < 0 || i >= len(b.Links) {
				got, err := branch.Remove(b, i)
				wantNone(t, fmt.Sprintf("Remove(%s, %d)", short(b), i), got, err, api.ErrArg)
			}
		}
	}
}

func TestP8_7_Places(t *testing.T) {
	for _, c := range []struct {
		sizes []int
		want  int
	}{
		{[]int{10, 10, 10}, 1}, {[]int{9, 200, 9}, 1}, {[]int{9, 9, 200}, 1}, {[]int{200, 9, 9}, 1}, {[]int{10, 10, 10, 10}, 1}, {[]int{10, 10, 10, 20}, 2}, {[]int{20, 10, 10, 10, 10}, 1}, {[]int{10, 10, 10, 10, 10}, 2}, {[]int{30, 10, 20, 20, 20}, 2}, {[]int{10, 10, 10, 90}, 2}, {[]int{90, 10, 10, 10, 10}, 1}, {[]int{100, 100, 9, 9, 9}, 1}, {[]int{9, 9, 9, 100, 100}, 3},
	} {
		wantCut(t, fmt.Sprint(c.sizes), sized(c.sizes...), c.want)
	}
	r := rand.New(rand.NewSource(89))
	for range 200 {
		if b := randomBranch(r, 7000); len(b.Links) >= 3 {
			wantCut(t, short(b), b, plainPivot(b))
		}
	}
	for range 1000 {
		if b := wildBranch(r); len(b.Links) >= 3 {
			wantCut(t, short(b), b, plainPivot(b))
		}
	}
}

// What a link takes beside its key counts, too: by the keys alone this would be cut elsewhere.
func TestP8_7_SizesOfLinks(t *testing.T) {
	wantCut(t, "small links and a great one", keyed("a", "b", "c", "d", "e", "fffffffff"), 3)
	wantCut(t, "empty keys", node(2, make([]api.Link, 7)...), 3)
	wantCut(t, "many empty keys", node(2, make([]api.Link, 100001)...), 50000)
}

func TestP8_7_Refusals(t *testing.T) {
	x := strings.Repeat("x", 5000)
	wantNoCut(t, "none", api.Branch{}, api.ErrShort)
	wantNoCut(t, "no link", node(2), api.ErrShort)
	wantNoCut(t, "an empty list", node(2, []api.Link{}...), api.ErrShort)
	wantNoCut(t, "one link", keyed("a"), api.ErrShort)
	wantNoCut(t, "two links", keyed("a", "b"), api.ErrShort)
	wantNoCut(t, "two great links", keyed(x, x), api.ErrShort)
	for at := range 4 {
		for _, n := range []int{4066, 4067, 5000} {
			b := with(keyed("a", "b", "y", "z"), at, link(x[:n], 9))
			wantNoCut(t, fmt.Sprintf("a key of %d at %d", n, at), b, api.ErrArg)
		}
		b := with(keyed("a", "b", "y", "z"), at, link(x[:4065], 9))
		wantCut(t, fmt.Sprintf("a key of 4065 at %d", at), b, plainPivot(b))
	}
	wantNoCut(t, "three great links", keyed(x, x, x), api.ErrArg)
	wantCut(t, "links that fall", keyed("c", "b", "a"), 1)
	wantCut(t, "children that may not be", node(-1, link("a", 0), link("b", 0), link("", math.MinInt)), 1)
}

func TestP8_8_Join(t *testing.T) {
	wantJoin(t, node(2, link("a", 3)), "b", node(4, link("c", 5)), node(2, link("a", 3), link("b", 4), link("c", 5)))
	wantJoin(t, node(2), "b", node(4), node(2, link("b", 4)))
	wantJoin(t, node(2), "b", node(4, link("c", 5)), node(2, link("b", 4), link("c", 5)))
	wantJoin(t, node(2, link("a", 3)), "b", node(4), node(2, link("a", 3), link("b", 4)))
	wantJoin(t, api.Branch{}, "", api.Branch{}, node(0, link("", 0)))
	for _, a := range anyBranches() {
		for _, b := range anyBranches() {
			for _, key := range []string{"", "m", "\xff\xff", strings.Repeat("k", 5000)} {
				want := node(a.First)
				want.Links = append(want.Links, a.Links...)
				want.Links = append(want.Links, link(key, b.First))
				want.Links = append(want.Links, b.Links...)
				wantJoin(t, a, key, b, want)
			}
		}
	}
}

// wantHalves asks for two branches that need not be a root, and lead keys where the whole one did.
func wantHalves(t *testing.T, what string, b api.Branch) {
	t.Helper()
	if size := plainSize(b); size < 4073 || size > 7884 {
		t.Fatalf("%s: a branch of %d bytes", what, size)
	}
	left, key, right, err := branch.Cut(b)
	if err != nil {
		t.Fatalf("Cut of %s: %v", what, err)
	}
	wantCheck(t, what+", the left half", left, false, nil)
	wantCheck(t, what+", the right half", right, false, nil)
	if plainCheck(left, false) != nil || plainCheck(right, false) != nil {
		t.Errorf("the halves of %s have %d and %d bytes", what, plainSize(left), plainSize(right))
	}
	wantJoin(t, left, key, right, b)
	for _, l := range append(slices.Clone(b.Links), link("", 0), link("\xff\xff\xff", 0)) {
		wantSameChild(t, what, b, left, key, right, l.Key)
		wantSameChild(t, what, b, left, key, right, l.Key+"\x00")
		wantSameChild(t, what, b, left, key, right, l.Key[:len(l.Key)/2])
	}
}

func wantSameChild(t *testing.T, what string, b, left api.Branch, between string, right api.Branch, key string) {
	t.Helper()
	half := right
	if key < between {
		half = left
	}
	want, err := branch.Child(b, branch.Pick(b, key))
	got, fault := branch.Child(half, branch.Pick(half, key))
	if got != want || err != nil || fault != nil {
		t.Errorf("%s: %.20q belongs in %d of the halves, in %d of the whole", what, key, got, want)
	}
}

func TestP8_9_Edges(t *testing.T) {
	for _, size := range []int{4073, 4074, 4334, 4335, 5000, 6000, 7883, 7884} {
		b := big(size)
		wantHalves(t, fmt.Sprintf("%d bytes of great links", size), b)
		var sizes []int
		for i := range b.Links {
			sizes = append(sizes, 7+len(b.Links[len(b.Links)-1-i].Key))
		}
		wantHalves(t, fmt.Sprintf("%d bytes of great links, the small one ahead", size), sized(sizes...))
		small := slices.Repeat([]int{9}, (size-6)/9)
		small[len(small)/2] += (size - 6) % 9
		wantHalves(t, fmt.Sprintf("%d bytes of small links", size), sized(small...))
	}
	for great := range 8 {
		sizes := slices.Repeat([]int{9}, (4067-262*great)/9)
		sizes = slices.Insert(sizes, len(sizes)/2, slices.Repeat([]int{262}, great)...)
		sizes[0] += 4067 - plainSize(sized(sizes...)) + 6
		wantHalves(t, fmt.Sprintf("%d great links amid small ones", great), sized(sizes...))
	}
}

func TestP8_9_Random(t *testing.T) {
	r := rand.New(rand.NewSource(90))
	for cut := 0; cut < 1000; {
		total := 4073 + r.Intn(3812)
		if r.Intn(2) == 0 {
			total = 4073 + r.Intn(300)
		}
		rest := total - 6
		var sizes []int
		for most := 9 + r.Intn(254); rest >= 9; rest -= sizes[len(sizes)-1] {
			n := 9 + r.Intn(most-8)
			if r.Intn(4) == 0 {
				n = 262
			}
			sizes = append(sizes, min(n, rest))
		}
		if b := sized(sizes...); plainSize(b) >= 4073 {
			cut++
			wantHalves(t, fmt.Sprint(sizes), b)
		}
	}
}

var spare = api.Link{Key: "spare", Child: 99}

// roomy is the branch with spare room behind its links, filled with a link.
func roomy(b api.Branch) api.Branch {
	return api.Branch{First: b.First, Links: append(slices.Clone(b.Links), spare, spare, spare)[:len(b.Links)]}
}

// wantAsHanded asks that a roomy branch be as it was made of b.
func wantAsHanded(t *testing.T, what string, handed, b api.Branch) {
	t.Helper()
	n := len(b.Links)
	if !same(handed, b) || !slices.Equal(handed.Links[n:n+3], []api.Link{spare, spare, spare}) {
		t.Errorf("%s: what was handed in was changed", what)
	}
}

func TestP8_10_BranchesHandedIn(t *testing.T) {
	for i, b := range anyBranches() {
		handed, other := roomy(b), roomy(b)
		branch.Size(handed)
		branch.Check(handed, true)
		branch.Check(handed, false)
		branch.Encode(handed)
		branch.Cut(handed)
		branch.Join(handed, "between", other)
		branch.Join(handed, "between", handed)
		for at := -1; at <= len(b.Links)+1; at++ {
			branch.Child(handed, at)
			branch.Put(handed, at, 12345)
			branch.Insert(handed, at, link("new", 12345))
			branch.Remove(handed, at)
		}
		for _, key := range []string{"", "\x00", "a", "a1", "b", "\xff\xff"} {
			branch.Pick(handed, key)
		}
		wantAsHanded(t, fmt.Sprintf("branch %d", i), handed, b)
		wantAsHanded(t, fmt.Sprintf("branch %d, handed beside it", i), other, b)
	}
}

// spoil writes into every link of a branch, and into the room behind them.
func spoil(b api.Branch) {
	room := b.Links[:cap(b.Links)]
	for i := range room {
		room[i] = link("spoiled", -1)
	}
}

// wantApart asks that a spoiled answer changes neither what was handed in nor another answer.
func wantApart(t *testing.T, what string, b api.Branch, call func(b api.Branch) api.Branch) {
	t.Helper()
	handed := roomy(b)
	first, second := call(handed), call(handed)
	want := clone(second)
	spoil(first)
	wantAsHanded(t, what+", the answer spoiled", handed, b)
	if !same(second, want) {
		t.Errorf("%s: two answers share memory", what)
	}
	spoil(handed)
	if !same(second, want) {
		t.Errorf("%s: what was handed in is kept", what)
	}
}

func TestP8_10_AnswersNewMemory(t *testing.T) {
	for _, b := range []api.Branch{node(2), keyed("a"), keyed("a", "b"), keyed("a", "b", "c"), keyed("a", "b", "c", "d", "e", "f", "g", "h")} {
		n := len(b.Links)
		for i := -1; i <= n+1; i++ {
			what := fmt.Sprintf(" at %d of %d links", i, n)
			wantApart(t, "Put"+what, b, func(b api.Branch) api.Branch { b, _ = branch.Put(b, i, 9); return b })
			wantApart(t, "Insert"+what, b, func(b api.Branch) api.Branch { b, _ = branch.Insert(b, i, link("x", 9)); return b })
			wantApart(t, "Remove"+what, b, func(b api.Branch) api.Branch { b, _ = branch.Remove(b, i); return b })
		}
		what := fmt.Sprintf(" of %d links", n)
		wantApart(t, "Cut's left"+what, b, func(b api.Branch) api.Branch { left, _, _, _ := branch.Cut(b); return left })
		wantApart(t, "Cut's right"+what, b, func(b api.Branch) api.Branch { _, _, right, _ := branch.Cut(b); return right })
		wantApart(t, "Join ahead"+what, b, func(b api.Branch) api.Branch { return branch.Join(b, "m", node(2)) })
		wantApart(t, "Join behind"+what, b, func(b api.Branch) api.Branch { return branch.Join(node(2), "m", b) })
		wantApart(t, "Join with itself"+what, b, func(b api.Branch) api.Branch { return branch.Join(b, "m", b) })
	}
	wantApart(t, "Decode", keyed("a"), func(b api.Branch) api.Branch {
		b, _ = branch.Decode(3, plainBody(keyed("a", "b")))
		return b
	})
}

func TestP8_10_CutsHalvesApart(t *testing.T) {
	for n := 3; n <= 40; n++ {
		b := sized(slices.Repeat([]int{9}, n)...)
		left, _, right, err := branch.Cut(b)
		if err != nil {
			t.Fatal(err)
		}
		wantLeft, wantRight := clone(left), clone(right)
		spoil(left)
		_ = append(left.Links, spare, spare)
		if !same(right, wantRight) {
			t.Fatalf("Cut of %d links: the left half reaches into the right one", n)
		}
		left, _, right, _ = branch.Cut(b)
		spoil(right)
		if !same(left, wantLeft) {
			t.Fatalf("Cut of %d links: the right half reaches into the left one", n)
		}
	}
}

func TestP8_10_NilAndEmpty(t *testing.T) {
	none, empty := node(2), api.Branch{First: 2, Links: []api.Link{}}
	for _, b := range []api.Branch{none, empty} {
		wantSize(t, "no link", b, 6)
		wantBoth(t, "no link", b, api.ErrShort)
		wantNoBody(t, "no link", b, api.ErrShort)
		wantPick(t, b, "a", 0)
		wantChild(t, b, 0, 2)
		wantPut(t, b, 0, 9, node(9))
		wantInsert(t, b, 0, link("m", 3), node(2, link("m", 3)))
		wantNoCut(t, "no link", b, api.ErrShort)
		wantJoin(t, b, "m", b, node(2, link("m", 2)))
	}
}

func TestExamples(t *testing.T) {
	m, fm := node(2, link("m", 3)), node(2, link("f", 3), link("m", 4))
	wantSize(t, "none", api.Branch{}, 6)
	wantSize(t, "one link", m, 14)
	wantCheck(t, "one link", m, true, nil)
	wantCheck(t, "one link", m, false, api.ErrShort)
	wantCheck(t, "no link", node(2), true, api.ErrShort)
	wantCheck(t, "a first child 1", node(1, link("m", 3)), true, api.ErrArg)
	wantCheck(t, "the first child twice", node(2, link("m", 2)), true, api.ErrTwice)
	wantCheck(t, "equal keys", node(2, link("m", 3), link("m", 4)), true, api.ErrOrder)
	wantCheck(t, "an empty key", node(2, link("", 3)), true, api.ErrArg)
	body := "\x00\x08\x00\x0e\x00\x00\x00\x02\x01\x6d\x00\x00\x00\x03" + zeros(4058)
	wantBody(t, "one link", m, body)
	wantRead(t, "one link", 2, body, m)
	for _, count := range []int{1, 3, 0} {
		wantNotRead(t, fmt.Sprintf("one link by the count %d", count), count, body)
	}
	for key, want := range map[string]int{"a": 0, "f": 1, "g": 1, "m": 2, "z": 2} {
		wantPick(t, fm, key, want)
	}
	wantChild(t, m, 0, 2)
	wantChild(t, m, 1, 3)
	wantNoChild(t, m, 2)
	wantNoChild(t, m, -1)
	wantInsert(t, m, 0, link("f", 9), node(2, link("f", 9), link("m", 3)))
	wantInsert(t, m, 1, link("z", 9), node(2, link("m", 3), link("z", 9)))
	wantRemove(t, node(2, link("f", 9), link("m", 3)), 0, m)
	wantCut(t, "a, b, c", keyed("a", "b", "c"), 1)
	wantJoin(t, node(2, link("a", 3)), "b", node(4, link("c", 5)), keyed("a", "b", "c"))
}
