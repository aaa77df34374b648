package kv_test

import (
	"fmt"
	"maps"
	"math/rand"
	"slices"
	"strings"
	"testing"

	"copse/api"
	"copse/device"
	"copse/free"
	"copse/kv"
	"copse/meta"
	"copse/sheet"
	"copse/tree"
	"copse/walk"
)

// call is a call of a store: key and value are Scan's from and to.
type call struct {
	name, key, value string
	limit            int
}

func (c call) String() string {
	return fmt.Sprintf("%s(%.20q, %.20q, %d)", c.name, c.key, c.value, c.limit)
}

// answer is all that a call answers.
type answer struct {
	value string
	is    bool
	pairs []api.Pair
	err   error
}

func (a answer) String() string {
	return fmt.Sprintf("%.20q, %v, %d pairs, %v", a.value, a.is, len(a.pairs), a.err)
}

func (a answer) equals(b answer) bool {
	return a.value == b.value && a.is == b.is && slices.Equal(a.pairs, b.pairs) && a.err == b.err
}

func refused(err error) answer { return answer{err: err} }

// of makes the call.
func (c call) of(s *kv.Store) (a answer) {
	switch c.name {
	case "Format":
		a.err = s.Format()
	case "Open":
		a.err = s.Open()
	case "Close":
		a.err = s.Close()
	case "Begin":
		a.err = s.Begin()
	case "Put":
		a.err = s.Put(c.key, c.value)
	case "Delete":
		a.is, a.err = s.Delete(c.key)
	case "Get":
		a.value, a.is, a.err = s.Get(c.key)
	case "Scan":
		a.pairs, a.err = s.Scan(c.key, c.value, c.limit)
	case "Commit":
		a.err = s.Commit()
	case "Rollback":
		a.err = s.Rollback()
	default:
		panic(c.name)
	}
	return a
}

// names are the calls that may not come in every status.
var names = []string{"Format", "Open", "Close", "Begin", "Put", "Delete", "Get", "Scan", "Commit", "Rollback"}

// mayCome is the chapter's table.
var mayCome = map[string][]int{
	"Format":   {api.Closed, api.Opened},
	"Open":     {api.Closed},
	"Close":    {api.Opened, api.Working, api.Broken},
	"Begin":    {api.Opened},
	"Put":      {api.Working},
	"Delete":   {api.Working},
	"Get":      {api.Opened, api.Working},
	"Scan":     {api.Opened, api.Working},
	"Commit":   {api.Working},
	"Rollback": {api.Working, api.Broken},
}

var statusNames = []string{"Closed", "Opened", "Working", "Broken", "Dead"}

// book is a plain map of keys to values.
type book map[string]string

func (b book) pairs() []api.Pair {
	var l []api.Pair
	for _, k := range slices.Sorted(maps.Keys(b)) {
		l = append(l, api.Pair{Key: k, Value: b[k]})
	}
	return l
}

// scan is the first pairs at or above from and below to.
func (b book) scan(from, to string, limit int) []api.Pair {
	var l []api.Pair
	for _, p := range b.pairs() {
		if len(l) < limit && p.Key >= from && (to == "" || p.Key < to) {
			l = append(l, p)
		}
	}
	return l
}

// model is what a store is, in plain things: it knows nothing of pages, but is told where a commit finds no room.
type model struct {
	status, sectors int
	holds           bool // the device holds a store: the next two
	txid            uint64
	counts          book
	hand            book
}

func badKey(key string) bool { return len(key) < 1 || len(key) > 255 }

// argFault tells if the arguments of a call may not be.
func (c call) argFault() bool {
	switch c.name {
	case "Put":
		return badKey(c.key) || len(c.value) > 700
	case "Delete", "Get":
		return badKey(c.key)
	case "Scan":
		return c.limit < 0 || c.limit > 1000
	}
	return false
}

// answer is what a call answers, if the power does not fail in it. dead: the device is dead.
func (m *model) answer(c call, dead, full bool) answer {
	if m.status == api.Dead || dead {
		m.status = api.Dead
		return refused(api.ErrDead)
	}
	if !slices.Contains(mayCome[c.name], m.status) {
		return refused(api.ErrStatus)
	}
	if c.argFault() {
		return refused(api.ErrArg)
	}
	switch c.name {
	case "Format", "Open", "Commit":
		return refused(m.turn(c.name, full))
	case "Close":
		m.status = api.Closed
	case "Begin":
		m.status, m.hand = api.Working, maps.Clone(m.counts)
	case "Rollback":
		m.status = api.Opened
	default:
		return m.work(c)
	}
	return answer{}
}

// turn is the error of a call that makes another state count.
func (m *model) turn(name string, full bool) error {
	switch {
	case name == "Format" && m.sectors < 32:
		return api.ErrArg
	case name == "Format":
		m.status, m.holds, m.txid, m.counts = api.Closed, true, 0, book{}
	case name == "Open" && !m.holds:
		return api.ErrCorrupt
	case name == "Open":
		m.status = api.Opened
	case m.txid == 1<<64-1:
		m.status = api.Broken
		return api.ErrTxid
	case full:
		m.status = api.Broken
		return api.ErrFull
	default:
		m.status, m.txid, m.counts = api.Opened, m.txid+1, m.hand
	}
	return nil
}

// work is the answer of a call on the pairs at hand.
func (m *model) work(c call) answer {
	b := m.counts
	if m.status == api.Working {
		b = m.hand
	}
	old, has := b[c.key]
	switch c.name {
	case "Put":
		b[c.key] = c.value
	case "Delete":
		delete(b, c.key)
		return answer{is: has}
	case "Get":
		return answer{value: old, is: has}
	case "Scan":
		return answer{pairs: b.scan(c.key, c.value, c.limit)}
	}
	return answer{}
}

// toldTxid is what Txid says.
func (m *model) toldTxid() uint64 {
	if m.status == api.Closed || m.status == api.Dead {
		return 0
	}
	return m.txid
}

// twin is a store and its model. Beside them goes a tree that is changed by hand, to tell where there is no room.
type twin struct {
	t      *testing.T
	d      *device.Device
	s      *kv.Store
	m      *model
	shadow *tree.Tree
	free   int
	done   int // Puts and Deletes of this transaction
	seen   map[string]int
}

// newTwin is a new store over a device that holds no store.
func newTwin(t *testing.T, d *device.Device) *twin {
	return &twin{t: t, d: d, s: kv.New(d), m: &model{sectors: d.Size()}, seen: map[string]int{}}
}

// twinOver is a new store over a device on which a store lies.
func twinOver(t *testing.T, d *device.Device) *twin {
	t.Helper()
	w := newTwin(t, d)
	s, err := walk.Survey(d)
	must(t, err)
	w.m.holds, w.m.txid, w.m.counts = true, s.Meta.Txid, contentOf(t, d)
	return w
}

// opened is one that is Opened.
func opened(t *testing.T, sectors int) *twin {
	t.Helper()
	w := newTwin(t, device.New(sectors))
	w.do(call{name: "Format"})
	w.do(call{name: "Open"})
	return w
}

func (w *twin) begin()    { w.t.Helper(); w.do(call{name: "Begin"}) }
func (w *twin) rollback() { w.t.Helper(); w.do(call{name: "Rollback"}) }
func (w *twin) commit() error {
	w.t.Helper()
	return w.do(call{name: "Commit"}).err
}

// all makes calls, one behind the other.
func (w *twin) all(l []call) {
	w.t.Helper()
	for _, c := range l {
		w.do(c)
	}
}

// work is a transaction of these calls.
func (w *twin) work(l ...call) {
	w.t.Helper()
	w.begin()
	w.all(l)
	w.commit()
}

// do makes a call, and holds its answer, the status and what was written against the model.
func (w *twin) do(c call) answer {
	w.t.Helper()
	was, sectors, full := *w.m, 0, false
	if c.name == "Commit" && was.status == api.Working {
		sectors, full = 8*w.shadow.Changed()+1, w.shadow.Changed() > w.free
	}
	dead, since := w.d.Dead(), counts(w.d)
	want := w.m.answer(c, dead, full)
	got := c.of(w.s)
	if !got.equals(want) {
		w.t.Fatalf("%v in %s = %v, want %v", c, statusNames[was.status], got, want)
	}
	w.wantStatus(c)
	w.wantWritten(c, got.err, since, sectors)
	w.follow(c, want.err)
	w.seen[fmt.Sprint(c.name, " in ", statusNames[was.status], ": ", want.err)]++
	return got
}

func (w *twin) wantStatus(what any) {
	w.t.Helper()
	if w.s.Status() != w.m.status || w.s.Txid() != w.m.toldTxid() {
		w.t.Fatalf("behind %v: %s, transaction %d, want %s, %d", what, statusNames[w.s.Status()], w.s.Txid(), statusNames[w.m.status], w.m.toldTxid())
	}
}

// wantWritten holds the sectors that a call has written and its syncs against those that are its own (W13).
func (w *twin) wantWritten(c call, err error, since [3]int, sectors int) {
	w.t.Helper()
	syncs := 2
	switch {
	case err != nil || c.name != "Commit" && c.name != "Format":
		sectors, syncs = 0, 0
	case c.name == "Format":
		sectors, syncs = 3, 3
	case sectors > 8*18*w.done+1:
		w.t.Fatalf("%v: %d sectors for %d changes", c, sectors, w.done)
	}
	now := counts(w.d)
	if now[1]-since[1] != sectors || now[2]-since[2] != syncs {
		w.t.Fatalf("%v: %d sectors were written and %d syncs done, want %d and %d", c, now[1]-since[1], now[2]-since[2], sectors, syncs)
	}
	if len(w.d.Pending()) != 0 {
		w.t.Fatalf("%v: something is pending", c)
	}
}

// follow lets the tree that goes beside be as it must be.
func (w *twin) follow(c call, err error) {
	w.t.Helper()
	switch {
	case err != nil:
	case c.name == "Begin":
		s, err := walk.Survey(w.d)
		must(w.t, err)
		w.shadow, w.free, w.done = tree.Open(w.d, s.Meta), s.Meta.Pages-2-len(s.Pages), 0
	case c.name == "Put":
		w.done++
		must(w.t, w.shadow.Put(c.key, c.value))
	case c.name == "Delete":
		w.done++
		_, err := w.shadow.Delete(c.key)
		must(w.t, err)
	}
}

// wantDevice holds what lies on the device against the pairs that count.
func (w *twin) wantDevice(what any) {
	w.t.Helper()
	wantHeld(w.t, what, w.d, w.m.txid, w.m.counts)
}

// again is a new store over the device, which is alive again, and opened, if it holds one.
func (w *twin) again() {
	w.t.Helper()
	w.d.Revive()
	w.s, w.m.status = kv.New(w.d), api.Closed
	w.do(call{name: "Open"})
}

// wantHeld holds what lies on a device against a transaction and its pairs.
func wantHeld(t *testing.T, what any, d *device.Device, txid uint64, b book) {
	t.Helper()
	s, err := walk.Survey(d)
	if err != nil || s.Meta.Txid != txid {
		t.Fatalf("%v: the device has the transaction %d, %v, want %d", what, s.Meta.Txid, err, txid)
	}
	if c := contentOf(t, d); !maps.Equal(c, b) {
		t.Fatalf("%v: the device has %d other pairs, want %d", what, len(c), len(b))
	}
}

func contentOf(t *testing.T, d *device.Device) book {
	t.Helper()
	l, err := walk.Content(d)
	must(t, err)
	b := book{}
	for _, p := range l {
		b[p.Key] = p.Value
	}
	return b
}

// wantFound opens a new store over a device, and holds what it finds against a transaction and its pairs.
func wantFound(t *testing.T, what any, d *device.Device, txid uint64, b book) *kv.Store {
	t.Helper()
	s, since := kv.New(d), counts(d)
	if err := s.Open(); err != nil || s.Status() != api.Opened || s.Txid() != txid {
		t.Fatalf("%v: Open = %v, %s, transaction %d, want %d", what, err, statusNames[s.Status()], s.Txid(), txid)
	}
	if now := counts(d); now[1] != since[1] || now[2] != since[2] {
		t.Fatalf("%v: Open has written", what)
	}
	wantPairs(t, what, s, b)
	return s
}

// wantPairs scans all pairs, piece by piece, and holds them against a book.
func wantPairs(t *testing.T, what any, s *kv.Store, b book) {
	t.Helper()
	var all []api.Pair
	from := ""
	for {
		l, err := s.Scan(from, "", 1000)
		must(t, err)
		all = append(all, l...)
		if len(l) < 1000 {
			break
		}
		from = l[999].Key + "\x00"
	}
	if !slices.Equal(all, b.pairs()) {
		t.Fatalf("%v: %d pairs are at hand, want %d", what, len(all), len(b))
	}
}

// wantSame holds two devices against one another, byte by byte.
func wantSame(t *testing.T, what any, d, want *device.Device) {
	t.Helper()
	if !slices.Equal(d.Durable(), want.Durable()) {
		t.Fatalf("%v: other bytes are durable", what)
	}
	if !slices.Equal(d.Pending(), want.Pending()) {
		t.Fatalf("%v: other bytes are pending", what)
	}
}

// wantDead makes every call of a store that is Dead.
func wantDead(t *testing.T, what any, s *kv.Store) {
	t.Helper()
	for _, c := range everyCall() {
		if a := c.of(s); !a.equals(refused(api.ErrDead)) || s.Status() != api.Dead || s.Txid() != 0 {
			t.Fatalf("%v: then %v = %v, %s, transaction %d", what, c, a, statusNames[s.Status()], s.Txid())
		}
	}
}

// everyCall is one of each, with arguments that may be.
func everyCall() []call {
	var l []call
	for _, name := range names {
		l = append(l, call{name: name, key: "a", value: "1", limit: 10})
	}
	return l
}

func must(t *testing.T, err error) {
	t.Helper()
	if err != nil {
		t.Fatal(err)
	}
}

func counts(d *device.Device) [3]int {
	r, w, s := d.Counts()
	return [3]int{r, w, s}
}

// clone is a device on which the same lies durably.
func clone(t *testing.T, d *device.Device) *device.Device {
	t.Helper()
	c, err := device.Open(d.Size(), d.Durable())
	must(t, err)
	return c
}

func put(key, value string) call { return call{name: "Put", key: key, value: value} }

func del(key string) call { return call{name: "Delete", key: key} }

// long is a key of 255 bytes.
func long(name string) string { return name + strings.Repeat("-", 255-len(name)) }

// puts are calls that put so many pairs, from that number on.
func puts(from, n, size int) []call {
	var l []call
	for i := range n {
		l = append(l, put(long(fmt.Sprintf("k%03d", (from+i)%1000)), strings.Repeat(string(rune('a'+from%26)), size)))
	}
	return l
}

// dels are calls that delete so many of these pairs.
func dels(from, n int) []call {
	var l []call
	for i := range n {
		l = append(l, del(long(fmt.Sprintf("k%03d", from+i))))
	}
	return l
}

// shop is a device on which a store lies, laid there by hand.
type shop struct {
	name string
	d    *device.Device
	meta api.Meta
	book book
}

// shops are stores of each depth, whose meta lies in either slot, with holes among their pages.
func shops(t *testing.T) []shop {
	t.Helper()
	one := []call{put("a", "1")}
	var l []shop
	for _, s := range []struct {
		name    string
		sectors int
		works   [][]call
	}{
		{"empty", 80, nil},
		{"empty, slot 1", 85, [][]call{nil}},
		{"one leaf, slot 1", 80, [][]call{one}},
		{"one leaf, slot 0", 87, [][]call{one, {put("b", "2")}}},
		{"emptied", 80, [][]call{one, {del("a")}}},
		{"two levels, slot 1", 8 * 60, [][]call{puts(0, 20, 600)}},
		{"two levels, slot 0", 8 * 60, [][]call{puts(0, 20, 600), puts(7, 3, 500)}},
		{"three levels, slot 0", 8 * 200, [][]call{puts(0, 60, 700), dels(13, 17)}},
		{"three levels, slot 1", 8 * 200, [][]call{puts(0, 60, 700), dels(30, 9), puts(50, 2, 9)}},
	} {
		made := shop{name: s.name, d: device.New(s.sectors), meta: api.Meta{Pages: s.sectors / 8}, book: book{}}
		must(t, meta.Store(made.d, made.meta))
		must(t, made.d.Sync())
		for _, w := range s.works {
			made.commit(t, w)
		}
		l = append(l, made)
	}
	return l
}

// commit makes changes durable by hand, without a store.
func (s *shop) commit(t *testing.T, l []call) {
	t.Helper()
	ops, next, b := s.commitOps(t, l)
	for _, o := range ops {
		must(t, o.do(s.d))
	}
	s.meta, s.book = next, b
}

// op is an operation of a device: a write to a sector or, without bytes, a sync.
type op struct {
	sector int
	data   []byte
}

func (o op) do(d *device.Device) error {
	if o.data == nil {
		return d.Sync()
	}
	return d.Write(o.sector, o.data)
}

func metaOp(t *testing.T, m api.Meta) op {
	t.Helper()
	p, err := meta.Encode(m)
	must(t, err)
	return op{sector: 8 * int(m.Txid%2), data: p}
}

// commitOps are the operations of a Commit of these changes, as chapter 13 has them; the meta and the pairs that count then.
func (s *shop) commitOps(t *testing.T, l []call) ([]op, api.Meta, book) {
	t.Helper()
	r, b := tree.Open(s.d, s.meta), maps.Clone(s.book)
	for _, c := range l {
		if c.name == "Put" {
			must(t, r.Put(c.key, c.value))
			b[c.key] = c.value
			continue
		}
		_, err := r.Delete(c.key)
		must(t, err)
		delete(b, c.key)
	}
	survey, err := walk.Survey(s.d)
	must(t, err)
	taken, err := free.New(s.meta.Pages)
	must(t, err)
	for _, id := range survey.Pages {
		must(t, taken.Mark(id))
	}
	next := api.Meta{Pages: s.meta.Pages, Txid: s.meta.Txid + 1}
	sheets, root, err := r.Plan(taken, next.Txid)
	must(t, err)
	next.Root = root
	var ops []op
	for _, x := range sheets {
		p, err := sheet.Seal(x)
		must(t, err)
		ops = append(ops, op{sector: 8 * x.ID, data: p})
	}
	return append(ops, op{}, metaOp(t, next), op{}), next, b
}

// formatOps are the operations of a Format of a device on which a store lies.
func (s *shop) formatOps(t *testing.T) []op {
	t.Helper()
	idle := 1 - int(s.meta.Txid%2)
	wipe := func(slot int) op { return op{sector: 8 * slot, data: make([]byte, 512)} }
	return []op{wipe(idle), {}, wipe(1 - idle), {}, metaOp(t, api.Meta{Pages: s.meta.Pages}), {}}
}

// played is a device on which these operations were done, and whose power failed then.
func (s *shop) played(t *testing.T, ops []op, fates []api.Fate) *device.Device {
	t.Helper()
	d := clone(t, s.d)
	for _, o := range ops {
		must(t, o.do(d))
	}
	d.Crash(fates)
	return d
}

// pending is how many sectors wait for the sync that follows the operations.
func pending(ops []op) int {
	n := 0
	for _, o := range ops {
		n += len(o.data) / 512
		if o.data == nil {
			n = 0
		}
	}
	return n
}

// fatesOf are ways in which a failure of the power treats so many pending writes.
func fatesOf(rnd *rand.Rand, pending int) [][]api.Fate {
	all := func(make func(i int) api.Fate) []api.Fate {
		var l []api.Fate
		for i := range pending {
			l = append(l, make(i))
		}
		return l
	}
	keep := func(i int) api.Fate { return api.Fate{Index: i, Kind: api.FateKeep} }
	mixed := func(i int) api.Fate {
		return api.Fate{Index: rnd.Intn(pending+2) - 1, Kind: rnd.Intn(5), Cut: rnd.Intn(520) - 4, Junk: strings.Repeat("z", rnd.Intn(600))}
	}
	backwards := all(keep)
	slices.Reverse(backwards)
	return [][]api.Fate{
		nil,
		all(keep),
		backwards,
		all(func(i int) api.Fate { return api.Fate{Index: i, Kind: api.FateDrop} }),
		all(func(i int) api.Fate { return api.Fate{Index: i, Kind: api.FateTear, Cut: rnd.Intn(28)} }),
		all(func(i int) api.Fate { return api.Fate{Index: i, Kind: api.FateTear, Cut: 28 + rnd.Intn(500)} }),
		{{Index: pending, Kind: api.FateKeep}, {Index: pending - 1, Kind: api.FateKeep}, {Index: -1, Kind: api.FateKeep}},
		all(mixed),
	}
}
