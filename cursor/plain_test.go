package cursor_test

import (
	"fmt"
	"math/rand"
	"slices"
	"strings"
	"testing"

	"copse/api"
	"copse/cursor"
	"copse/device"
	"copse/free"
	"copse/sheet"
	"copse/tree"
)

// list is a place on a plain rising list of pairs: no place is -1.
type list struct {
	pairs []api.Pair
	at    int
}

func newList(pairs []api.Pair) *list { return &list{pairs: pairs, at: -1} }

func (l *list) pair() (api.Pair, bool) {
	if l.at < 0 {
		return api.Pair{}, false
	}
	return l.pairs[l.at], true
}

// toFirst goes to the first pair of which that holds.
func (l *list) toFirst(holds func(key string) bool) {
	l.at = slices.IndexFunc(l.pairs, func(p api.Pair) bool { return holds(p.Key) })
}

// toLast goes to the last pair of which that holds.
func (l *list) toLast(holds func(key string) bool) {
	l.at = -1
	for i, p := range l.pairs {
		if holds(p.Key) {
			l.at = i
		}
	}
}

func any(string) bool { return true }

// move is a call that moves a cursor, and what it does on a list.
type move struct {
	name string
	do   func(c *cursor.Cursor) (bool, error)
	on   func(l *list)
}

var first = move{"First", (*cursor.Cursor).First, func(l *list) { l.toFirst(any) }}

var last = move{"Last", (*cursor.Cursor).Last, func(l *list) { l.toLast(any) }}

var next = move{"Next", (*cursor.Cursor).Next, func(l *list) {
	p, is := l.pair()
	l.toFirst(func(key string) bool { return !is || key > p.Key })
}}

var prev = move{"Prev", (*cursor.Cursor).Prev, func(l *list) {
	p, is := l.pair()
	l.toLast(func(key string) bool { return !is || key < p.Key })
}}

func seek(key string) move {
	return move{
		"Seek(" + cut(key) + ")",
		func(c *cursor.Cursor) (bool, error) { return c.Seek(key) },
		func(l *list) { l.toFirst(func(k string) bool { return k >= key }) },
	}
}

func back(key string) move {
	return move{
		"Back(" + cut(key) + ")",
		func(c *cursor.Cursor) (bool, error) { return c.Back(key) },
		func(l *list) { l.toLast(func(k string) bool { return k < key }) },
	}
}

// cut is a key short enough to be read.
func cut(key string) string {
	if len(key) < 30 {
		return fmt.Sprintf("%q", key)
	}
	return fmt.Sprintf("%q..%q of %d", key[:8], key[len(key)-8:], len(key))
}

// wood is a tree with the pairs that it has.
type wood struct {
	name  string
	d     *device.Device
	tree  *tree.Tree
	pairs []api.Pair
	depth int
	taken *free.Map // nothing in it is ever given back, so that the pages of earlier trees stay
}

const woodPages = 400

// long is a key of 255 bytes.
func long(name string) string { return name + strings.Repeat("-", 255-len(name)) }

// pairsOf are pairs with these keys, rising.
func pairsOf(size int, keys ...string) []api.Pair {
	slices.Sort(keys)
	var l []api.Pair
	for i, k := range keys {
		v := fmt.Sprint(i)
		l = append(l, api.Pair{Key: k, Value: v + strings.Repeat("v", max(size-len(v), 0))})
	}
	return l
}

// shapes are pairs for trees of each depth, with keys that begin with others, the shortest and the longest keys.
func shapes() []wood {
	two := []string{"\x00", "\x00\x00", "a", "a\x00", "a\x00\x00", "a\x01", "b", "\xff", "\xff\xff", strings.Repeat("\xff", 255), long("m"), long("m")[:254]}
	three := slices.Clone(two)
	for i := range 12 {
		two = append(two, fmt.Sprintf("k%02d", i))
	}
	for i := range 120 {
		three = append(three, long(fmt.Sprintf("k%03d", 2*i)))
	}
	return []wood{
		{name: "empty"},
		{name: "one pair", pairs: pairsOf(0, "m"), depth: 1},
		{name: "one leaf", pairs: pairsOf(9, "a", "a\x00", "a\x00\x00", "b", "d", long("f")), depth: 1},
		{name: "two levels", pairs: pairsOf(600, two...), depth: 2},
		{name: "three levels", pairs: pairsOf(700, three...), depth: 3},
	}
}

// woods are trees of each shape: all of whose nodes are changed, planned and stored, opened from the device, and of which some are changed.
func woods(t *testing.T) []wood {
	t.Helper()
	var l []wood
	for _, s := range shapes() {
		for _, state := range []string{"changed", "stored", "opened", "mixed"} {
			w := wood{name: s.name + ", " + state, d: device.New(8 * woodPages), pairs: s.pairs, depth: s.depth}
			w.grow(t, state)
			l = append(l, w)
		}
	}
	return l
}

func (w *wood) grow(t *testing.T, state string) {
	t.Helper()
	var err error
	w.taken, err = free.New(woodPages)
	must(t, err)
	w.tree = tree.Open(w.d, api.Meta{})
	for _, i := range rand.New(rand.NewSource(7)).Perm(len(w.pairs)) {
		w.put(t, w.pairs[i])
	}
	if state == "changed" {
		return
	}
	root := w.store(t)
	if state == "opened" {
		w.tree = tree.Open(w.d, api.Meta{Root: root})
	}
	if state == "mixed" && len(w.pairs) > 0 {
		w.put(t, w.pairs[len(w.pairs)/2])
	}
	if depth, err := w.tree.Depth(); depth != w.depth || err != nil {
		t.Fatalf("%s: Depth = %d, %v", w.name, depth, err)
	}
}

// store plans the tree and writes what is planned; it tells the root's page.
func (w *wood) store(t *testing.T) int {
	t.Helper()
	sheets, root, err := w.tree.Plan(w.taken, 1)
	must(t, err)
	for _, s := range sheets {
		must(t, sheet.Store(w.d, s))
	}
	must(t, w.d.Sync())
	return root
}

func (w *wood) put(t *testing.T, p api.Pair) {
	t.Helper()
	must(t, w.tree.Put(p.Key, p.Value))
}

func (w *wood) drop(t *testing.T, key string) {
	t.Helper()
	_, err := w.tree.Delete(key)
	must(t, err)
}

// asked are keys to look for: each that stands there, right ahead of it and right behind it, beginnings of it, and such as can be no keys.
func (w *wood) asked() []string {
	l := []string{"", "\x00", "\xff", "A", "zzz", long("m") + "-", long("m") + "\x00", strings.Repeat("m", 5000), strings.Repeat("\xff", 256), strings.Repeat("\xff", 5000), strings.Repeat("\x00", 300)}
	for _, p := range w.pairs {
		end := len(p.Key) - 1
		l = append(l, p.Key, p.Key+"\x00", p.Key[:end], p.Key[:end]+string([]byte{p.Key[end] - 1, 0xff}), p.Key+"\xff")
	}
	return l
}

func must(t *testing.T, err error) {
	t.Helper()
	if err != nil {
		t.Fatal(err)
	}
}

// wantAt holds the cursor's place against that on the list.
func wantAt(t *testing.T, what string, c *cursor.Cursor, l *list) {
	t.Helper()
	p, is := c.Pair()
	if want, has := l.pair(); p != want || is != has {
		t.Fatalf("%s: Pair = %s, %v, want %s, %v", what, cut(p.Key), is, cut(want.Key), has)
	}
}

// wantMove moves the cursor and the place on the list, and holds them against each other.
func wantMove(t *testing.T, what string, c *cursor.Cursor, l *list, m move) {
	t.Helper()
	is, err := m.do(c)
	m.on(l)
	what = what + ": " + m.name
	if _, want := l.pair(); is != want || err != nil {
		t.Fatalf("%s = %v, %v, want %v", what, is, err, want)
	}
	wantAt(t, what, c, l)
}
