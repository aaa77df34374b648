package query_test

import (
	"fmt"
	"maps"
	"math"
	"math/rand"
	"slices"
	"strings"
	"testing"

	"copse/api"
	"copse/device"
	"copse/kv"
	"copse/query"
	"copse/table"
	"copse/walk"
)

// shop is a store with tables, and what is in them, in plain things.
type shop struct {
	t      *testing.T
	d      *device.Device
	s      *kv.Store
	tables *table.Tables
	defs   map[string]api.Table
	rows   map[string][]api.Row
}

// newShop is one whose store is empty, in a transaction.
func newShop(t *testing.T, pages int) *shop {
	t.Helper()
	w := &shop{t: t, d: device.New(8 * pages), defs: map[string]api.Table{}, rows: map[string][]api.Row{}}
	w.over()
	must(t, w.s.Format())
	must(t, w.s.Open())
	must(t, w.s.Begin())
	return w
}

// over is a new store over the device.
func (w *shop) over() {
	w.s = kv.New(w.d)
	w.tables = table.New(w.s)
}

func (w *shop) define(d api.Table) {
	w.t.Helper()
	must(w.t, w.tables.Define(d))
	w.defs[d.Name] = d
}

func (w *shop) insert(name string, l ...api.Row) {
	w.t.Helper()
	for _, r := range l {
		must(w.t, w.tables.Insert(name, r))
	}
	w.rows[name] = append(w.rows[name], l...)
}

// ask holds an answer against a look through all records.
func (w *shop) ask(q api.Query) []api.Row {
	w.t.Helper()
	want := plainAnswer(w.defs[q.Table], w.rows[q.Table], q)
	got, err := query.Ask(w.tables, q)
	if !sameRows(got, want) || err != nil {
		w.t.Fatalf("%s: %v, %v, want %v", textOf(q), idsOf(got), err, idsOf(want))
	}
	return got
}

func (w *shop) wantIDs(s string, ids ...int) {
	w.t.Helper()
	q, err := query.Parse(s)
	must(w.t, err)
	if got := idsOf(w.ask(q)); !slices.Equal(got, ids) {
		w.t.Errorf("%s: %v, want %v", s, got, ids)
	}
}

// refused holds that a question has an error for an answer.
func (w *shop) refused(q api.Query, want error) {
	w.t.Helper()
	if rows, err := query.Ask(w.tables, q); rows != nil || err != want {
		w.t.Errorf("%.90q: %v, %v, want %v", fmt.Sprint(q), idsOf(rows), err, want)
	}
}

// exampleShop has the table of the chapter's examples.
func exampleShop(t *testing.T) *shop {
	t.Helper()
	w := newShop(t, 100)
	w.define(tableT())
	w.insert("T", row(4, num(1), text("b")), row(1, num(2), text("a")), row(9, num(1), null()), row(3, null(), text("b")), row(2, num(1), text("b")), row(7, num(-5), text("")), row(0, null(), null()))
	return w
}

func TestP18_6_Examples(t *testing.T) {
	w := exampleShop(t)
	for range 2 {
		w.wantIDs("from T", 0, 1, 2, 3, 4, 7, 9)
		w.wantIDs("from T where f = 1", 2, 4, 9)
		w.wantIDs("from T where g = \"b\"", 2, 3, 4)
		w.wantIDs("from T where f = 1 and g = \"b\"", 2, 4)
		w.wantIDs("from T where g = \"b\" and f < 1")
		w.wantIDs("from T where f = null", 0, 3)
		w.wantIDs("from T where f = null and g = null", 0)
		w.wantIDs("from T where f <= 1", 2, 4, 7, 9)
		w.wantIDs("from T where f >= -5 and f < 2", 2, 4, 7, 9)
		w.wantIDs("from T where f = 1 and f = 2")
		w.wantIDs("from T where f = 1 and f = \"x\"")
		w.wantIDs("from T where f = \"x\" and f = 1")
		w.wantIDs("from T where f = null and f = 1")
		w.wantIDs("from T where g = 1")
		w.wantIDs("from T order by f", 0, 3, 7, 2, 4, 9, 1)
		w.wantIDs("from T order by f falling", 1, 2, 4, 9, 7, 0, 3)
		w.wantIDs("from T order by g", 0, 9, 7, 1, 2, 3, 4)
		w.wantIDs("from T order by g falling", 2, 3, 4, 1, 7, 0, 9)
		w.wantIDs("from T where f = 1 order by g", 9, 2, 4)
		w.wantIDs("from T where f = 1 order by g falling", 2, 4, 9)
		w.wantIDs("from T where g = \"b\" order by f limit 2", 3, 2)
		for limit := 1; limit <= 9; limit++ {
			w.wantIDs(fmt.Sprint("from T order by f falling limit ", limit), []int{1, 2, 4, 9, 7, 0, 3}[:min(limit, 7)]...)
			w.wantIDs(fmt.Sprint("from T where f = 1 limit ", limit), []int{2, 4, 9}[:min(limit, 3)]...)
		}
		w.wantIDs("from T limit 9223372036854775807", 0, 1, 2, 3, 4, 7, 9)
		if w.s.Status() == api.Working {
			must(t, w.s.Commit())
		}
	}
}

// inStatus lets a store that has the example's table, and no transaction, come to a status.
func inStatus(t *testing.T, status int) *shop {
	t.Helper()
	w := exampleShop(t)
	must(t, w.s.Commit())
	switch status {
	case api.Working:
		must(t, w.s.Begin())
	case api.Closed:
		must(t, w.s.Close())
	case api.Broken:
		must(t, w.s.Begin())
		for i := range 500 {
			must(t, w.s.Put(fmt.Sprint("k", i), strings.Repeat("v", 700)))
		}
		if err := w.s.Commit(); err != api.ErrFull {
			t.Fatal(err)
		}
	case api.Dead:
		w.d.Crash(nil)
		if err := w.s.Begin(); err != api.ErrDead {
			t.Fatal(err)
		}
	}
	if w.s.Status() != status {
		t.Fatalf("the status is %d, want %d", w.s.Status(), status)
	}
	return w
}

var refusedIn = map[int]error{api.Closed: api.ErrStatus, api.Opened: nil, api.Working: nil, api.Broken: api.ErrStatus, api.Dead: api.ErrDead}

func TestP18_6_EveryStatus(t *testing.T) {
	for status, told := range refusedIn {
		w := inStatus(t, status)
		for _, s := range []string{"from T", "from T where f = 1", "from T order by g falling limit 3"} {
			q, err := query.Parse(s)
			must(t, err)
			if told == nil {
				w.ask(q)
			} else {
				w.refused(q, told)
			}
		}
		or := func(err error) error {
			if told != nil {
				return told
			}
			return err
		}
		w.refused(from("S"), or(api.ErrLost))
		w.refused(from(strings.Repeat("n", 32)), or(api.ErrLost))
		w.refused(from("T", where("h", 1, num(1))), or(api.ErrLost))
		w.refused(ordered(from("T"), "h", false, 0), or(api.ErrLost))
		w.refused(from("S", where("h", 1, num(1))), or(api.ErrLost))
		// The faults of a query come ahead of all.
		w.refused(api.Query{}, api.ErrArg)
		w.refused(from("T", where("f", 6, num(1))), api.ErrArg)
		w.refused(from("S", where("h", 1, deep(5))), api.ErrMany)
		w.refused(ordered(from("S"), "", true, 0), api.ErrArg)
		w.refused(ordered(from("T"), "", false, -1), api.ErrArg)
		if w.s.Status() != status {
			t.Errorf("behind the questions the status is %d, want %d", w.s.Status(), status)
		}
	}
}

func TestP18_6_TheFaultsInTheirOrder(t *testing.T) {
	t.Parallel()
	shops := map[int]*shop{}
	for status := range refusedIn {
		shops[status] = inStatus(t, status)
	}
	bare := newShop(t, 50) // no table was ever defined there
	for _, q := range wrongQueries() {
		fault := plainFault(q)
		for status, told := range refusedIn {
			w := shops[status]
			switch {
			case fault != nil:
				w.refused(q, fault)
			case told != nil:
				w.refused(q, told)
			case q.Table != "T":
				w.refused(q, api.ErrLost)
			default:
				if _, err := plainChoose(w.defs["T"], q); err != nil {
					w.refused(q, err)
				} else {
					w.ask(q)
				}
			}
		}
		if fault == nil {
			fault = api.ErrLost
		}
		bare.refused(q, fault)
		if t.Failed() {
			return
		}
	}
}

// A device that dies between two questions, and comes back.
func TestP18_6_ThePowerFails(t *testing.T) {
	w := exampleShop(t)
	must(t, w.s.Commit())
	w.wantIDs("from T where f = 1", 2, 4, 9)
	w.d.Crash(nil)
	for _, q := range []api.Query{from("T"), from("T", where("f", 1, num(1))), from("S")} {
		w.refused(q, api.ErrDead)
	}
	w.refused(from("T", where("f", 9, num(1))), api.ErrArg)
	w.d.Revive()
	w.refused(from("T"), api.ErrDead)
	w.over()
	w.refused(from("T"), api.ErrStatus)
	must(t, w.s.Open())
	w.wantIDs("from T where f = 1", 2, 4, 9)
}

// What is asked is what is at hand.
func TestP18_6_WithinATransaction(t *testing.T) {
	w := exampleShop(t)
	must(t, w.s.Commit())
	must(t, w.s.Begin())
	kept := slices.Clone(w.rows["T"])
	w.insert("T", row(5, num(1), text("c")))
	w.wantIDs("from T where f = 1", 2, 4, 5, 9)
	must(t, w.tables.Remove("T", 4))
	must(t, w.tables.Update("T", row(2, num(8), text("b"))))
	w.rows["T"] = []api.Row{row(1, num(2), text("a")), row(9, num(1), null()), row(3, null(), text("b")), row(2, num(8), text("b")), row(7, num(-5), text("")), row(0, null(), null()), row(5, num(1), text("c"))}
	w.wantIDs("from T where f = 1", 5, 9)
	w.wantIDs("from T where g = \"b\" order by f falling", 2, 3)
	must(t, w.s.Rollback())
	w.rows["T"] = kept
	w.wantIDs("from T where f = 1", 2, 4, 9)
}

func TestP18_6_NoRecords(t *testing.T) {
	w := newShop(t, 100)
	w.define(tableT())
	w.define(api.Table{Name: "U", Fields: tableT().Fields, Indexes: [][]int{{0}}})
	w.insert("U", row(1, num(1), text("x")))
	for _, s := range []string{"from T", "from T where f = 1", "from T order by f", "from T order by f falling limit 4", "from T where f = 1 and g = \"x\" limit 1"} {
		w.wantIDs(s)
	}
	w.wantIDs("from U where f = 1", 1)
	w.wantIDs("from U where f = 2")
}

// IDs at both ends, asked in their order by no index and by one.
func TestP18_6_IDs(t *testing.T) {
	w := newShop(t, 100)
	w.define(tableT())
	ids := []int{math.MaxInt, 0, 1, 255, 256, 257, 1 << 32, math.MaxInt - 1, 2}
	for _, id := range ids {
		w.insert("T", row(id, num(1), text(fmt.Sprint(id))))
	}
	slices.Sort(ids)
	w.wantIDs("from T", ids...)
	w.wantIDs("from T where f = 1", ids...)
	w.wantIDs("from T order by f falling", ids...)
	w.wantIDs("from T order by f limit 3", ids[:3]...)
}

// More records than one scan of the store answers.
func TestP18_6_ManyRecords(t *testing.T) {
	t.Parallel()
	w := newShop(t, 3000)
	w.define(tableT())
	for i := range 2500 {
		w.insert("T", row(i*7919%2500, num(i%3), text(fmt.Sprint(i%11))))
	}
	for _, s := range []string{"from T", "from T where f = 1", "from T where f = 1 order by g falling", "from T order by g limit 1200", "from T where g > \"3\" order by f falling", "from T where f = 1 and g = \"7\" limit 20"} {
		q, err := query.Parse(s)
		must(t, err)
		if len(w.ask(q)) == 0 {
			t.Errorf("%s: no records", s)
		}
	}
}

// Bound items that are so long that By refuses them, or that no key is so long.
func TestP18_6_BoundItemsThatAreTooLong(t *testing.T) {
	w := newShop(t, 100)
	fields := []api.Field{field("f", api.ItemText), field("g", api.ItemText), field("h", api.ItemList)}
	for name, indexes := range map[string][][]int{"none": nil, "one": {{0}}, "two": {{0, 1}}, "three": {{2}, {1, 0, 2}}, "all": {{0, 1, 2}, {1}, {2}, {0}}} {
		w.define(api.Table{Name: name, Fields: fields, Indexes: indexes})
		w.insert(name, row(1, text("x"), text("y"), listOf()), row(2, null(), text("x"), null()), row(3, text(strings.Repeat("x", 60)), null(), listOf(text("x"))))
	}
	texts := []int{0, 1, 60, 100, 200, 255, 256, 600, 700, 701, 30000, 40000, 65480, 65500, 65510, 65520, 65525, 65530, 65533}
	refusals := 0
	for _, n := range texts {
		long := text(strings.Repeat("x", n))
		asked := [][]api.Condition{
			{where("f", 1, long)}, {where("f", 1, long), where("g", 1, long)}, {where("f", 1, long), where("f", 1, text("x"))}, {where("f", 1, text("x")), where("f", 1, long)}, {where("f", 3, long)}, {where("f", 2, long), where("g", 1, null())}, {where("f", 1, null()), where("g", 1, long)},
		}
		if n < 65500 {
			asked = append(asked, []api.Condition{where("h", 1, listOf(long))}, []api.Condition{where("h", 1, listOf(long)), where("g", 1, long), where("f", 1, long)})
		}
		for name := range w.defs {
			for _, l := range asked {
				w.ask(from(name, l...))
				w.ask(ordered(from(name, l...), "g", true, 1))
			}
		}
		for _, name := range []string{"one", "two"} {
			if _, err := w.tables.By(name, 0, []api.Item{long}); err == api.ErrMany {
				refusals++
			}
		}
	}
	if refusals < 4 {
		t.Errorf("By has refused only %d", refusals)
	}
	// The errors that come ahead of it stay.
	longest := where("f", 1, text(strings.Repeat("x", 65533)))
	w.refused(from("one", longest, where("x", 1, null())), api.ErrLost)
	w.refused(ordered(from("one", longest), "x", false, 0), api.ErrLost)
	w.refused(from("other", longest), api.ErrLost)
	w.d.Crash(nil)
	w.refused(from("one", longest), api.ErrDead)
}

// layouts are several indexes for one table, of four fields.
func layouts() map[string][][]int {
	return map[string][][]int{"t0": nil, "t1": {{0}}, "t2": {{1, 0}, {2}}, "t3": {{3}, {2, 1}, {0, 1, 2, 3}, {1}}, "t4": {{1}, {0}, {3}, {2}}, "t5": {{0, 1}, {1, 0}, {3, 2, 1, 0}}}
}

func layoutNames() []string { return slices.Sorted(maps.Keys(layouts())) }

// layoutShop has tables with the same records and other indexes.
func layoutShop(t *testing.T, r *rand.Rand, records int) *shop {
	t.Helper()
	w := newShop(t, 800)
	for _, name := range layoutNames() {
		d := abc(layouts()[name]...)
		d.Name = name
		w.define(d)
	}
	for range records {
		x := row(r.Intn(1 << 20))
		if slices.ContainsFunc(w.rows["t0"], func(o api.Row) bool { return o.ID == x.ID }) {
			continue
		}
		for _, f := range abc().Fields {
			x.Items = append(x.Items, fewItems(r, f.Kind))
		}
		for _, name := range layoutNames() {
			w.insert(name, x)
		}
	}
	return w
}

// fewItems is an item of a kind, or null, that is often met.
func fewItems(r *rand.Rand, kind int) api.Item {
	if kind == api.ItemNum && r.Intn(2) == 0 {
		return num(r.Intn(4))
	}
	if kind == api.ItemList && r.Intn(2) == 0 {
		return listOf(num(r.Intn(2)))
	}
	if kind == api.ItemText && r.Intn(2) == 0 {
		return text(string(rune('a' + r.Intn(3))))
	}
	return randomItem(r, kind, 2)
}

// questionOf is a question by chance to a table with the fields of abc.
func questionOf(r *rand.Rand) api.Query {
	q := api.Query{Table: "t0"}
	for range r.Intn(5) {
		f := abc().Fields[r.Intn(4)]
		c := where(f.Name, 1, fewItems(r, f.Kind))
		if r.Intn(3) == 0 {
			c.Sign = 1 + r.Intn(5)
		}
		if r.Intn(12) == 0 {
			c.Item = fewItems(r, 2+r.Intn(4))
		}
		q.Conditions = append(q.Conditions, c)
	}
	if r.Intn(2) == 0 {
		q.Order, q.Falling = abc().Fields[r.Intn(4)].Name, r.Intn(2) == 0
	}
	if r.Intn(3) == 0 {
		q.Limit = 1 + r.Intn(20)
	}
	return q
}

// Questions by chance, to tables with the same records and other indexes.
func TestP18_7_TheAnswerHangsOnTheRecordsAlone(t *testing.T) {
	t.Parallel()
	plans, found := map[api.Plan]int{}, 0
	for seed := range int64(6) {
		r := newRand(seed)
		w := layoutShop(t, r, 60)
		for range 250 {
			q := questionOf(r)
			var first []api.Row
			for _, name := range layoutNames() {
				q.Table = name
				p, err := choose(t, w.defs[name], q)
				must(t, err)
				plans[p]++
				rows := w.ask(q)
				if name == "t0" {
					first = rows
				} else if !sameRows(rows, first) {
					t.Fatalf("%s: %v, by no index %v", textOf(q), idsOf(rows), idsOf(first))
				}
				found += len(rows)
			}
		}
	}
	for _, p := range []api.Plan{{Index: -1}, {Index: 0, Bound: 1}, {Index: 0, Bound: 2}, {Index: 1, Bound: 1}, {Index: 1, Bound: 2}, {Index: 2, Bound: 2}, {Index: 2, Bound: 3}, {Index: 2, Bound: 4}, {Index: 3, Bound: 1}} {
		if plans[p] < 5 {
			t.Errorf("the plan %v was taken %d times", p, plans[p])
		}
	}
	if found < 10000 {
		t.Errorf("only %d records were found", found)
	}
}

// isWithin tells if all of a are in b, in the same order.
func isWithin(a, b []int) bool {
	for _, n := range b {
		if len(a) > 0 && a[0] == n {
			a = a[1:]
		}
	}
	return len(a) == 0
}

func TestP18_7_LimitsAndFurtherConditions(t *testing.T) {
	t.Parallel()
	r := newRand(77)
	w := layoutShop(t, r, 60)
	fewer := 0
	for range 400 {
		q := questionOf(r)
		q.Table, q.Limit = layoutNames()[r.Intn(6)], 0
		all := idsOf(w.ask(q))
		for _, limit := range []int{1, 2, len(all) - 1, len(all), len(all) + 1, math.MaxInt} {
			if limit < 1 {
				continue
			}
			cut := q
			cut.Limit = limit
			if got := idsOf(w.ask(cut)); !slices.Equal(got, all[:min(limit, len(all))]) {
				t.Fatalf("%s: %v, without a limit %v", textOf(cut), got, all)
			}
		}
		more := q
		more.Conditions = append(slices.Clone(q.Conditions), questionOf(r).Conditions...)
		got := idsOf(w.ask(more))
		if !isWithin(got, all) {
			t.Fatalf("%s: %v, with fewer conditions %v", textOf(more), got, all)
		}
		if len(got) < len(all) {
			fewer++
		}
	}
	if fewer < 50 {
		t.Errorf("only %d times a condition has taken records away", fewer)
	}
}

// spoil changes a byte of a page; called again, it is as it was.
func spoil(t *testing.T, d *device.Device, page int) {
	t.Helper()
	p, err := d.Read(8*page, 1)
	must(t, err)
	p[100] ^= 1
	must(t, d.Write(8*page, p))
	must(t, d.Sync())
}

// Whichever page is spoilt by somebody else: a question is answered as if it were not, or ErrCorrupt.
func TestP18_6_ACorruptPage(t *testing.T) {
	t.Parallel()
	r := newRand(6)
	w := layoutShop(t, r, 60)
	must(t, w.s.Commit())
	survey, err := walk.Survey(w.d)
	must(t, err)
	if survey.Depth < 2 {
		t.Fatalf("the tree has %d levels", survey.Depth)
	}
	refusals := map[int]int{}
	for _, page := range survey.Pages {
		spoil(t, w.d, page)
		for range 12 {
			q := questionOf(r)
			q.Table = layoutNames()[r.Intn(6)]
			p, err := query.Choose(w.defs[q.Table], q)
			must(t, err)
			rows, err := query.Ask(w.tables, q)
			if err == api.ErrCorrupt && rows == nil {
				refusals[min(p.Index, 0)]++
			} else if want := plainAnswer(w.defs[q.Table], w.rows[q.Table], q); err != nil || !sameRows(rows, want) {
				t.Fatalf("with page %d spoilt: %s: %v, %v, want %v", page, textOf(q), idsOf(rows), err, idsOf(want))
			}
		}
		spoil(t, w.d, page)
	}
	if refusals[-1] == 0 || refusals[0] == 0 {
		t.Errorf("refused by no index and by one: %v", refusals)
	}
	w.wantIDs("from t0", idsOf(w.ask(from("t5")))...)
}

// stored is all pairs of a store.
func stored(t *testing.T, s *kv.Store) map[string]string {
	t.Helper()
	b, at := map[string]string{}, ""
	for {
		l, err := s.Scan(at, "", 1000)
		must(t, err)
		for _, p := range l {
			b[p.Key] = p.Value
			at = p.Key + "\x00"
		}
		if len(l) < 1000 {
			return b
		}
	}
}

func TestP18_8_AskChangesNothing(t *testing.T) {
	r := newRand(8)
	w := layoutShop(t, r, 40)
	for range 2 {
		before, status, txid := stored(t, w.s), w.s.Status(), w.s.Txid()
		_, written, synced := w.d.Counts()
		for range 200 {
			q := questionOf(r)
			q.Table = layoutNames()[r.Intn(6)]
			first := w.ask(q)
			if !sameRows(w.ask(q), first) {
				t.Fatalf("%s: asked twice, it has two answers", textOf(q))
			}
		}
		w.refused(from("none"), api.ErrLost)
		w.refused(ordered(from("t1"), "x", false, 0), api.ErrLost)
		_, writtenNow, syncedNow := w.d.Counts()
		if w.s.Status() != status || w.s.Txid() != txid || written != writtenNow || synced != syncedNow || !maps.Equal(stored(t, w.s), before) {
			t.Error("something has changed")
		}
		if status == api.Working {
			must(t, w.s.Commit())
		}
	}
}
