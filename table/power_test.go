package table_test

import (
	"fmt"
	"maps"
	"strings"
	"testing"

	"copse/api"
	"copse/device"
	"copse/kv"
	"copse/table"
	"copse/walk"
)

// ledger is a table with four indexes, whose entries lie far from one another.
func ledger(name string) api.Table {
	return api.Table{Name: name, Fields: []api.Field{field("s", api.ItemText), field("n", api.ItemNum), field("t", api.ItemText)}, Indexes: [][]int{{0}, {1}, {2, 1}, {1, 0}}}
}

// crowdRow is a record of a ledger, of one of many sizes.
func crowdRow(id, n int) api.Row {
	return row(id, text(fmt.Sprint(n*7%40, strings.Repeat("s", n*53%140))), num(n*11%17-8), text(fmt.Sprint(n*3%10, strings.Repeat("t", n*37%130))))
}

// crowd is a store that counts, of more than one level, with two tables.
func crowd(t *testing.T) *twin {
	t.Helper()
	w := working(t, 400).with(ledger("a"), ledger("b"))
	for i := range 30 {
		w.want(nil, insert("a", crowdRow(i, i)))
		w.want(nil, insert("b", crowdRow(i, i+5)))
	}
	for i := range 30 {
		if i%4 == 1 {
			w.want(nil, remove("b", i))
		}
	}
	w.commit()
	return w
}

// spoil changes a byte of a page; called again, it is as it was.
func spoil(t *testing.T, d *device.Device, page int) {
	t.Helper()
	p, err := d.Read(8*page, 1)
	must(t, err)
	p[100] ^= 1
	must(t, d.Write(8*page, p))
	must(t, d.Sync())
}

// crowdCalls are calls of each kind, of records far from one another.
func crowdCalls() []call {
	l := []call{define(people())}
	for _, name := range []string{"a", "b"} {
		l = append(l, call{what: "Table", name: name}, call{what: "Rows", name: name})
		for i := range 4 {
			l = append(l, by(name, i))
		}
		l = append(l, by(name, 1, num(3)))
		for _, id := range []int{0, 3, 10, 18, 26} {
			l = append(l, call{what: "Row", name: name, row: row(id)}, remove(name, id), update(name, crowdRow(id, id+3)), insert(name, crowdRow(40+id, 2*id)))
		}
	}
	return l
}

// Whichever page is spoilt by somebody else: a call answers as if it were not, or ErrCorrupt, and then nothing has changed.
func TestP17_ACorruptPage(t *testing.T) {
	t.Parallel()
	w := crowd(t)
	survey, err := walk.Survey(w.d)
	must(t, err)
	if survey.Depth < 2 {
		t.Fatalf("the tree has %d levels", survey.Depth)
	}
	seen := map[string]int{}
	for _, page := range survey.Pages {
		for _, c := range crowdCalls() {
			w.withSpoilt(page, c, seen)
		}
	}
	for _, what := range calls {
		if seen[what] == 0 {
			t.Errorf("no page stood in the way of %s", what)
		}
	}
}

// withSpoilt makes a call in a transaction of its own while a page is spoilt.
func (w *twin) withSpoilt(page int, c call, seen map[string]int) {
	w.t.Helper()
	w.begin()
	spoil(w.t, w.d, page)
	was := w.m.hand.copied()
	want := w.m.answer(c)
	got := c.of(w.r)
	spoil(w.t, w.d, page)
	if got.equals(refused(api.ErrCorrupt)) {
		w.m.hand = was
		seen[c.what]++
	} else if !got.equals(want) {
		w.t.Fatalf("%v with page %d spoilt = %v, want %v", c, page, got, want)
	}
	w.samePairs(fmt.Sprintf("behind %v with page %d spoilt, %v", c, page, got.err))
	w.rollback()
}

// Records that are taken away from leaves that are as small as may be: the page of a neighbour must be read then, in the midst of the call.
func TestP17_ACorruptNeighbour(t *testing.T) {
	t.Parallel()
	seen := map[string]int{}
	r := newRand(12)
	for range 12 {
		w := working(t, 200).with(ledger("a"))
		var ids []int
		for id := range 40 {
			w.want(nil, insert("a", crowdRow(id, r.Intn(1000))))
			ids = append(ids, id)
		}
		r.Shuffle(len(ids), func(i, j int) { ids[i], ids[j] = ids[j], ids[i] })
		for _, id := range ids[:24] {
			w.want(nil, remove("a", id))
		}
		w.commit()
		survey, err := walk.Survey(w.d)
		must(t, err)
		for _, page := range survey.Pages {
			for _, id := range ids[24:] {
				w.withSpoilt(page, remove("a", id), seen)
				w.withSpoilt(page, update("a", crowdRow(id, r.Intn(1000))), seen)
			}
		}
	}
	if seen["Remove"] == 0 || seen["Update"] == 0 {
		t.Errorf("no page stood in the way: %v", seen)
	}
}

// Defined in a store in which the heads of the spaces and the definition come into leaves of their own.
func TestP17_1_ACorruptPageInDefine(t *testing.T) {
	t.Parallel()
	for size := 60; size <= 700; size += 80 {
		w := working(t, 200)
		for i := range 8 {
			for _, near := range []string{"\x04inde", "\x04index\x00\x01", "\x04q", "\x04rows\x00", "\x04rows\x00\x01", "\x04tables\x00\x00\x00", "\x04tabl", "\x04u"} {
				w.put(fmt.Sprint(near, i), strings.Repeat("v", size-i))
			}
		}
		w.commit()
		survey, err := walk.Survey(w.d)
		must(t, err)
		seen := map[string]int{}
		for _, page := range survey.Pages {
			w.withSpoilt(page, define(things()), seen)
		}
		if seen["Define"] < 3 {
			t.Errorf("values of %d bytes: only %d pages stood in the way", size, seen["Define"])
		}
	}
}

// work is what is done in a transaction.
type work []call

func works() map[string]work {
	l := work{define(people()), remove("a", 3), update("a", crowdRow(10, 99))}
	for i := range 6 {
		l = append(l, insert("people", row(i, text(fmt.Sprint("p", i)), num(i%2))))
	}
	return map[string]work{
		"a table is defined":       {define(things())},
		"a record is put":          {insert("a", crowdRow(50, 7))},
		"one in another's place":   {update("b", crowdRow(10, 77))},
		"a record is taken away":   {remove("a", 18)},
		"all that, and some again": l,
	}
}

// over is a store over a copy of a device, in a transaction, with some work done in it.
func (w *twin) over(l work) *twin {
	w.t.Helper()
	d, err := device.Open(w.d.Size(), w.d.Durable())
	must(w.t, err)
	c := &twin{t: w.t, d: d, s: kv.New(d), m: &model{counts: w.m.counts.copied()}, seen: map[string]int{}}
	c.r = table.New(c.s)
	c.open()
	c.begin()
	for _, x := range l {
		c.want(nil, x)
	}
	return c
}

// The power fails in each operation of a Commit: the tables, records and entries are those ahead of it or those behind it.
func TestP17_9_ThePowerFailsInACommit(t *testing.T) {
	t.Parallel()
	start := crowd(t)
	for name, l := range works() {
		c := start.over(l)
		_, before, _ := c.d.Counts()
		must(t, c.s.Commit())
		_, behind, _ := c.d.Counts()
		operations := (behind-before-1)/8 + 3
		both := [2]int{}
		for n := range operations {
			for _, kind := range []int{api.FateDrop, api.FateKeep, api.FateTear} {
				both[start.failedAt(l, n, kind)]++
			}
		}
		if both[0] == 0 || both[1] == 0 {
			t.Errorf("%s: %v", name, both)
		}
	}
}

// failedAt lets the power fail in the Commit of some work: 0, if what was ahead of it is there then, 1, if what was at hand.
func (w *twin) failedAt(l work, n, kind int) int {
	w.t.Helper()
	c := w.over(l)
	var fates []api.Fate
	for i := range 400 {
		fates = append(fates, api.Fate{Index: i, Kind: kind, Cut: 10})
	}
	c.d.Arm(n, fates)
	if err := c.s.Commit(); err != api.ErrDead {
		w.t.Fatalf("Commit = %v: the power has not failed in operation %d", err, n)
	}
	if a := (call{what: "Rows", name: "a"}).of(c.r); !a.equals(refused(api.ErrDead)) {
		w.t.Fatalf("Rows behind the failure = %v", a)
	}
	c.again()
	found := 0
	if !maps.Equal(stored(w.t, c.s), c.m.counts.pairs()) {
		c.m.counts, found = c.m.hand, 1
	}
	c.whole()
	return found
}

// The power fails outside of a Commit: the tables are those of the last one.
func TestP17_9_ThePowerFailsInATransaction(t *testing.T) {
	start := crowd(t)
	for _, l := range works() {
		c := start.over(l)
		c.d.Crash(nil)
		c.again()
		c.whole()
	}
}

// No call of this layer writes to the device or ends a transaction: only kv's Commit does.
func TestP17_TheCallsBeginAndEndNoTransaction(t *testing.T) {
	w := crowd(t)
	w.begin()
	txid := w.s.Txid()
	_, written, synced := w.d.Counts()
	for _, c := range crowdCalls() {
		w.do(c)
	}
	_, w2, s2 := w.d.Counts()
	if w.s.Status() != api.Working || w.s.Txid() != txid || w2 != written || s2 != synced {
		t.Errorf("%s, transaction %d, %d sectors written, %d syncs", statusNames[w.s.Status()], w.s.Txid(), w2-written, s2-synced)
	}
}
