package space_test

import (
	"fmt"
	"maps"
	"math/rand"
	"slices"
	"strings"
	"testing"

	"copse/api"
	"copse/device"
	"copse/kv"
	"copse/space"
	"copse/tuple"
)

func null() api.Item { return api.Item{Kind: api.ItemNull} }

func flag(n int) api.Item { return api.Item{Kind: api.ItemFlag, Num: n} }

func num(n int) api.Item { return api.Item{Kind: api.ItemNum, Num: n} }

func text(s string) api.Item { return api.Item{Kind: api.ItemText, Text: s} }

func listOf(l ...api.Item) api.Item { return api.Item{Kind: api.ItemList, List: l} }

func items(l ...api.Item) []api.Item { return l }

// ones is a list of so many numbers.
func ones(n int) []api.Item {
	return slices.Repeat(items(num(1)), n)
}

// deep is so many lists in one another.
func deep(n int) api.Item {
	l := listOf()
	for range n - 1 {
		l = listOf(l)
	}
	return l
}

// pack is the text of a list that may be.
func pack(l ...api.Item) string {
	s, err := tuple.Pack(l)
	if err != nil {
		panic(err)
	}
	return s
}

// at is the key in the store of a key of a space.
func at(name string, key ...api.Item) string {
	return pack(append(items(text(name)), key...)...)
}

func head(name string) string { return at(name) }

// filled is a key of a space whose key in the store has so many bytes: the name has one byte, 04 n 00 00, and 04 .. 00 00 are the text's.
func filled(bytes int) []api.Item { return items(text(strings.Repeat("k", bytes-7))) }

func sameItem(a, b api.Item) bool {
	return a.Kind == b.Kind && a.Num == b.Num && a.Text == b.Text && sameItems(a.List, b.List)
}

func sameItems(a, b []api.Item) bool { return slices.EqualFunc(a, b, sameItem) }

// call is a call of the spaces: key is Scan's prefix.
type call struct {
	what, name string
	key        []api.Item
	value      string
	limit      int
}

func (c call) String() string {
	return fmt.Sprintf("%s(%.40q, %.80q, %.20q, %d)", c.what, c.name, fmt.Sprint(c.key), c.value, c.limit)
}

// answer is all that a call answers.
type answer struct {
	names  []string
	value  string
	is     bool
	keys   [][]api.Item
	values []string
	err    error
}

func (a answer) String() string {
	return fmt.Sprintf("%.20q, %v, %d names, %d keys, %d values, %v", a.value, a.is, len(a.names), len(a.keys), len(a.values), a.err)
}

func (a answer) equals(b answer) bool {
	return slices.Equal(a.names, b.names) && a.value == b.value && a.is == b.is && a.err == b.err &&
		slices.EqualFunc(a.keys, b.keys, sameItems) && slices.Equal(a.values, b.values)
}

func refused(err error) answer { return answer{err: err} }

// of makes the call.
func (c call) of(p *space.Spaces) (a answer) {
	switch c.what {
	case "Make":
		a.err = p.Make(c.name)
	case "Drop":
		a.err = p.Drop(c.name)
	case "Names":
		a.names, a.err = p.Names()
	case "Put":
		a.err = p.Put(c.name, c.key, c.value)
	case "Get":
		a.value, a.is, a.err = p.Get(c.name, c.key)
	case "Delete":
		a.is, a.err = p.Delete(c.name, c.key)
	case "Scan":
		a.keys, a.values, a.err = p.Scan(c.name, c.key, c.limit)
	default:
		panic(c.what)
	}
	return a
}

var calls = []string{"Make", "Drop", "Names", "Put", "Get", "Delete", "Scan"}

var statusNames = []string{"Closed", "Opened", "Working", "Broken", "Dead"}

// book is the pairs of a store.
type book map[string]string

// under is the keys that begin so, rising.
func (b book) under(begin string) []string {
	var l []string
	for k := range b {
		if strings.HasPrefix(k, begin) {
			l = append(l, k)
		}
	}
	slices.Sort(l)
	return l
}

// model is a store with its spaces, in plain things: a status, the pairs that count and those at hand.
type model struct {
	status       int
	counts, hand book
}

// pairs is the pairs at hand.
func (m *model) pairs() book {
	if m.status == api.Working {
		return m.hand
	}
	return m.counts
}

func mayBeName(s string) bool {
	return len(s) > 0 && len(s) <= 32 && strings.IndexFunc(s, func(r rune) bool { return r < '!' || r > '~' }) < 0
}

// fault is what a call is refused with, as P16.1 and P16.2 have it.
func (m *model) fault(c call) error {
	reads := slices.Contains([]string{"Names", "Get", "Scan"}, c.what)
	switch {
	case m.status == api.Dead:
		return api.ErrDead
	case m.status != api.Working && !(reads && m.status == api.Opened):
		return api.ErrStatus
	case c.what == "Names":
		return nil
	case !mayBeName(c.name):
		return api.ErrArg
	}
	if err := itemsFault(c); err != nil {
		return err
	}
	_, made := m.pairs()[head(c.name)]
	if c.what == "Make" && made {
		return api.ErrTwice
	}
	if c.what != "Make" && !made {
		return api.ErrLost
	}
	return nil
}

func itemsFault(c call) error {
	if c.what == "Make" || c.what == "Drop" {
		return nil
	}
	if c.what != "Scan" && len(c.key) == 0 {
		return api.ErrShort
	}
	if len(c.key) > 15 {
		return api.ErrMany
	}
	s, err := tuple.Pack(append(items(text(c.name)), c.key...))
	switch {
	case err != nil:
		return err
	case c.what == "Scan" && c.limit < 0:
		return api.ErrArg
	case c.what != "Scan" && len(s) > 255:
		return api.ErrMany
	case c.what == "Put" && len(c.value) > 700:
		return api.ErrMany
	}
	return nil
}

// answer is what a call answers.
func (m *model) answer(c call) answer {
	if err := m.fault(c); err != nil {
		return refused(err)
	}
	b := m.pairs()
	switch c.what {
	case "Make":
		b[head(c.name)] = ""
	case "Drop":
		for _, k := range b.under(head(c.name)) {
			delete(b, k)
		}
	case "Names":
		return answer{names: b.names()}
	case "Put":
		b[at(c.name, c.key...)] = c.value
	case "Get":
		v, is := b[at(c.name, c.key...)]
		return answer{value: v, is: is}
	case "Delete":
		_, is := b[at(c.name, c.key...)]
		delete(b, at(c.name, c.key...))
		return answer{is: is}
	case "Scan":
		return b.scan(c)
	}
	return answer{}
}

func (b book) names() []string {
	var l []string
	for k := range b {
		if i, err := tuple.Unpack(k); err == nil && len(i) == 1 && i[0].Kind == api.ItemText && mayBeName(i[0].Text) {
			l = append(l, i[0].Text)
		}
	}
	slices.Sort(l)
	return l
}

func (b book) scan(c call) (a answer) {
	for _, k := range b.under(at(c.name, c.key...)) {
		if l, err := tuple.Unpack(k); err == nil && len(l) > 1 && len(a.keys) < c.limit {
			a.keys, a.values = append(a.keys, l[1:]), append(a.values, b[k])
		}
	}
	return a
}

// twin is a store with its spaces, and their model.
type twin struct {
	t    *testing.T
	d    *device.Device
	s    *kv.Store
	p    *space.Spaces
	m    *model
	seen map[string]int
}

// working is one whose store is empty, in a transaction.
func working(t *testing.T, pages int) *twin {
	t.Helper()
	w := &twin{t: t, d: device.New(8 * pages), m: &model{counts: book{}}, seen: map[string]int{}}
	w.s = kv.New(w.d)
	w.p = space.New(w.s)
	must(t, w.s.Format())
	w.open()
	w.begin()
	return w
}

func (w *twin) open() {
	w.t.Helper()
	must(w.t, w.s.Open())
	w.m.status = api.Opened
}

func (w *twin) begin() {
	w.t.Helper()
	must(w.t, w.s.Begin())
	w.m.status, w.m.hand = api.Working, maps.Clone(w.m.counts)
}

func (w *twin) commit() {
	w.t.Helper()
	must(w.t, w.s.Commit())
	w.m.status, w.m.counts = api.Opened, w.m.hand
}

func (w *twin) rollback() {
	w.t.Helper()
	must(w.t, w.s.Rollback())
	w.m.status = api.Opened
}

func (w *twin) close() {
	w.t.Helper()
	must(w.t, w.s.Close())
	w.m.status = api.Closed
}

// again is a new store over the device, with the power back, opened.
func (w *twin) again() {
	w.t.Helper()
	w.d.Revive()
	w.s = kv.New(w.d)
	w.p = space.New(w.s)
	w.open()
}

// put is what somebody writes to the store without the spaces.
func (w *twin) put(key, value string) {
	w.t.Helper()
	must(w.t, w.s.Put(key, value))
	w.m.hand[key] = value
}

func (w *twin) del(key string) {
	w.t.Helper()
	_, err := w.s.Delete(key)
	must(w.t, err)
	delete(w.m.hand, key)
}

// do makes a call, and holds its answer against the model's.
func (w *twin) do(c call) answer {
	w.t.Helper()
	status := w.s.Status()
	if status != w.m.status {
		w.t.Fatalf("ahead of %v: %s, want %s", c, statusNames[status], statusNames[w.m.status])
	}
	want := w.m.answer(c)
	got := c.of(w.p)
	if !got.equals(want) {
		w.t.Fatalf("%v in %s = %v, want %v", c, statusNames[status], got, want)
	}
	if w.s.Status() != status {
		w.t.Fatalf("%v: %s behind %s", c, statusNames[w.s.Status()], statusNames[status])
	}
	w.seen[fmt.Sprint(c.what, " in ", statusNames[status], ": ", want.err)]++
	return got
}

// want makes a call, and holds its error against one that stands there.
func (w *twin) want(err error, c call) answer {
	w.t.Helper()
	a := w.do(c)
	if a.err != err {
		w.t.Fatalf("%v = %v, want %v", c, a.err, err)
	}
	return a
}

func (w *twin) made(names ...string) *twin {
	w.t.Helper()
	for _, n := range names {
		w.want(nil, call{what: "Make", name: n})
	}
	return w
}

// whole holds all that can be asked, and all pairs at hand, against the model.
func (w *twin) whole() {
	w.t.Helper()
	names := w.do(call{what: "Names"}).names
	for _, n := range names {
		w.do(call{what: "Scan", name: n, limit: 1 << 40})
	}
	if got := stored(w.t, w.s); !maps.Equal(got, w.m.pairs()) {
		w.t.Fatalf("the store has %d other pairs, want %d", len(got), len(w.m.pairs()))
	}
}

// stored is all pairs of a store.
func stored(t *testing.T, s *kv.Store) book {
	t.Helper()
	b, from := book{}, ""
	for {
		l, err := s.Scan(from, "", 1000)
		must(t, err)
		for _, p := range l {
			b[p.Key] = p.Value
			from = p.Key + "\x00"
		}
		if len(l) < 1000 {
			return b
		}
	}
}

func must(t *testing.T, err error) {
	t.Helper()
	if err != nil {
		t.Fatal(err)
	}
}

// randomText is one of few, so that it is met again, with bytes that a packed text writes in another way.
func randomText(r *rand.Rand) string {
	const bytes = "ab\x00\xff\x01z"
	var l []byte
	for range r.Intn(4) {
		l = append(l, bytes[r.Intn(len(bytes))])
	}
	return string(l)
}

// randomItem is an item that may be, with room for so many lists in one another.
func randomItem(r *rand.Rand, room int) api.Item {
	switch k := r.Intn(7); {
	case k == 0:
		return null()
	case k == 1:
		return flag(r.Intn(2))
	case k == 2 && room > 0:
		var l []api.Item
		for range r.Intn(3) {
			l = append(l, randomItem(r, room-1))
		}
		return listOf(l...)
	case k < 5:
		return num([]int{0, 1, -1, 5, 1<<63 - 1, -1 << 63, 256}[r.Intn(7)])
	}
	return text(randomText(r))
}

func randomKey(r *rand.Rand) []api.Item {
	var l []api.Item
	for range 1 + r.Intn(3) {
		l = append(l, randomItem(r, 4))
	}
	return l
}
