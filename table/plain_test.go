package table_test

import (
	"fmt"
	"maps"
	"math/rand"
	"slices"
	"strings"
	"testing"

	"copse/api"
	"copse/device"
	"copse/kv"
	"copse/table"
	"copse/tuple"
)

func null() api.Item { return api.Item{Kind: api.ItemNull} }

func flag(n int) api.Item { return api.Item{Kind: api.ItemFlag, Num: n} }

func num(n int) api.Item { return api.Item{Kind: api.ItemNum, Num: n} }

func text(s string) api.Item { return api.Item{Kind: api.ItemText, Text: s} }

func listOf(l ...api.Item) api.Item { return api.Item{Kind: api.ItemList, List: l} }

func items(l ...api.Item) []api.Item { return l }

func row(id int, l ...api.Item) api.Row { return api.Row{ID: id, Items: l} }

// deep is so many lists in one another.
func deep(n int) api.Item {
	l := listOf()
	for range n - 1 {
		l = listOf(l)
	}
	return l
}

func field(name string, kind int) api.Field { return api.Field{Name: name, Kind: kind} }

// people is the table of the chapter's examples.
func people() api.Table {
	return api.Table{Name: "people", Fields: []api.Field{field("name", api.ItemText), field("age", api.ItemNum)}, Indexes: [][]int{{1, 0}}}
}

// things is a table with a field of every kind and as many indexes as may be.
func things() api.Table {
	return api.Table{
		Name:    "things",
		Fields:  []api.Field{field("is", api.ItemFlag), field("n", api.ItemNum), field("s", api.ItemText), field("l", api.ItemList)},
		Indexes: [][]int{{3}, {2, 1}, {0, 1, 2, 3}, {1}},
	}
}

// notes is a table of texts without an index.
func notes() api.Table {
	return api.Table{Name: "notes", Fields: []api.Field{field("text", api.ItemText)}}
}

// pack is the text of a list that may be.
func pack(l ...api.Item) string {
	s, err := tuple.Pack(l)
	if err != nil {
		panic(err)
	}
	return s
}

func sameItem(a, b api.Item) bool {
	return a.Kind == b.Kind && a.Num == b.Num && a.Text == b.Text && sameItems(a.List, b.List)
}

func sameItems(a, b []api.Item) bool { return slices.EqualFunc(a, b, sameItem) }

func sameRow(a, b api.Row) bool { return a.ID == b.ID && sameItems(a.Items, b.Items) }

func sameTable(a, b api.Table) bool {
	return a.Name == b.Name && slices.Equal(a.Fields, b.Fields) && slices.EqualFunc(a.Indexes, b.Indexes, slices.Equal[[]int])
}

// call is a call of the tables.
type call struct {
	what, name string
	table      api.Table
	row        api.Row // its ID is also Remove's and Row's
	index      int
	items      []api.Item
}

func (c call) String() string {
	return fmt.Sprintf("%s(%.40q, %.90q, %.90q, %d, %.90q)", c.what, c.name, fmt.Sprint(c.table), fmt.Sprint(c.row), c.index, fmt.Sprint(c.items))
}

func define(d api.Table) call { return call{what: "Define", table: d} }

func insert(name string, r api.Row) call { return call{what: "Insert", name: name, row: r} }

func update(name string, r api.Row) call { return call{what: "Update", name: name, row: r} }

func remove(name string, id int) call { return call{what: "Remove", name: name, row: row(id)} }

func by(name string, index int, l ...api.Item) call {
	return call{what: "By", name: name, index: index, items: l}
}

// answer is all that a call answers.
type answer struct {
	table api.Table
	row   api.Row
	rows  []api.Row
	err   error
}

func (a answer) String() string {
	return fmt.Sprintf("%.90q, %.90q, %d rows, %v", fmt.Sprint(a.table), fmt.Sprint(a.row), len(a.rows), a.err)
}

func (a answer) equals(b answer) bool {
	return sameTable(a.table, b.table) && sameRow(a.row, b.row) && slices.EqualFunc(a.rows, b.rows, sameRow) && a.err == b.err
}

func (a answer) ids() []int {
	var l []int
	for _, r := range a.rows {
		l = append(l, r.ID)
	}
	return l
}

func refused(err error) answer { return answer{err: err} }

// of makes the call.
func (c call) of(t *table.Tables) (a answer) {
	switch c.what {
	case "Define":
		a.err = t.Define(c.table)
	case "Table":
		a.table, a.err = t.Table(c.name)
	case "Insert":
		a.err = t.Insert(c.name, c.row)
	case "Update":
		a.err = t.Update(c.name, c.row)
	case "Remove":
		a.err = t.Remove(c.name, c.row.ID)
	case "Row":
		a.row, a.err = t.Row(c.name, c.row.ID)
	case "Rows":
		a.rows, a.err = t.Rows(c.name)
	case "By":
		a.rows, a.err = t.By(c.name, c.index, c.items)
	default:
		panic(c.what)
	}
	return a
}

var calls = []string{"Define", "Table", "Insert", "Update", "Remove", "Row", "Rows", "By"}

func writes(what string) bool {
	return slices.Contains([]string{"Define", "Insert", "Update", "Remove"}, what)
}

var statusNames = []string{"Closed", "Opened", "Working", "Broken", "Dead"}

// plainTable is a table in plain things.
type plainTable struct {
	def  api.Table
	rows map[int][]api.Item
}

// book is the pairs of a store.
type book map[string]string

// world is what lies in a store: tables, which of the spaces are made, and pairs of somebody else.
type world struct {
	tables map[string]plainTable
	made   map[string]int
	others book
}

func newWorld() world {
	return world{tables: map[string]plainTable{}, made: map[string]int{}, others: book{}}
}

// copied is another world that is the same: its definitions and records are never changed, only others put in their places.
func (w world) copied() world {
	c := world{tables: map[string]plainTable{}, made: maps.Clone(w.made), others: maps.Clone(w.others)}
	for name, p := range w.tables {
		c.tables[name] = plainTable{def: p.def, rows: maps.Clone(p.rows)}
	}
	return c
}

// pairs is all pairs of the store, as the chapter has them.
func (w world) pairs() book {
	b := maps.Clone(w.others)
	for name := range w.made {
		b[pack(text(name))] = ""
	}
	for name, p := range w.tables {
		b[definitionKey(name)] = definitionText(p.def)
		for id, l := range p.rows {
			for _, x := range recordPairs(p.def, row(id, l...)) {
				b[x.Key] = x.Value
			}
		}
	}
	return b
}

func definitionKey(name string) string { return pack(text("tables"), text(name)) }

func definitionText(d api.Table) string {
	fields, indexes := listOf(), listOf()
	for _, f := range d.Fields {
		fields.List = append(fields.List, listOf(text(f.Name), num(f.Kind)))
	}
	for _, index := range d.Indexes {
		l := listOf()
		for _, n := range index {
			l.List = append(l.List, num(n))
		}
		indexes.List = append(indexes.List, l)
	}
	return pack(fields, indexes)
}

// recordPairs is the record's pair, and those of its entries.
func recordPairs(d api.Table, r api.Row) []api.Pair {
	l := []api.Pair{{Key: pack(text("rows"), text(d.Name), num(r.ID)), Value: pack(r.Items...)}}
	for i, index := range d.Indexes {
		key := items(text("index"), text(d.Name), num(i))
		for _, n := range index {
			key = append(key, r.Items[n])
		}
		l = append(l, api.Pair{Key: pack(append(key, num(r.ID))...)})
	}
	return l
}

func mayBeName(s string) bool {
	return len(s) > 0 && len(s) <= 32 && strings.IndexFunc(s, func(r rune) bool { return r < '!' || r > '~' }) < 0
}

func tableMayBe(d api.Table) bool {
	if !mayBeName(d.Name) || len(d.Fields) < 1 || len(d.Fields) > 8 || len(d.Indexes) > 4 {
		return false
	}
	for i, f := range d.Fields {
		if !mayBeName(f.Name) || f.Kind < 2 || f.Kind > 5 || slices.ContainsFunc(d.Fields[:i], func(g api.Field) bool { return g.Name == f.Name }) {
			return false
		}
	}
	for _, index := range d.Indexes {
		for i, n := range index {
			if n < 0 || n >= len(d.Fields) || slices.Contains(index[:i], n) {
				return false
			}
		}
		if len(index) == 0 {
			return false
		}
	}
	return true
}

// model is a store with its tables, in plain things: a status, what counts and what is at hand.
type model struct {
	status       int
	counts, hand world
}

func (m *model) world() world {
	if m.status == api.Working {
		return m.hand
	}
	return m.counts
}

// fault is what a call is refused with, as the promises have it.
func (m *model) fault(c call) error {
	switch {
	case m.status == api.Dead:
		return api.ErrDead
	case m.status != api.Working && (writes(c.what) || m.status != api.Opened):
		return api.ErrStatus
	}
	w := m.world()
	if c.what == "Define" {
		_, there := w.tables[c.table.Name]
		switch {
		case !tableMayBe(c.table):
			return api.ErrArg
		case there:
			return api.ErrTwice
		}
		return nil
	}
	p, there := w.tables[c.name]
	switch {
	case !mayBeName(c.name):
		return api.ErrArg
	case !there:
		return api.ErrLost
	}
	switch _, has := p.rows[c.row.ID]; c.what {
	case "Insert", "Update":
		return p.putFault(c)
	case "Remove", "Row":
		if !has {
			return api.ErrLost
		}
	case "By":
		return p.byFault(c)
	}
	return nil
}

func (p plainTable) putFault(c call) error {
	r, d := c.row, p.def
	if r.ID < 0 || len(r.Items) != len(d.Fields) {
		return api.ErrArg
	}
	for i, x := range r.Items {
		if x.Kind != api.ItemNull && x.Kind != d.Fields[i].Kind {
			return api.ErrKind
		}
	}
	value, err := tuple.Pack(r.Items)
	if err != nil {
		return err
	}
	_, has := p.rows[r.ID]
	if has && c.what == "Insert" {
		return api.ErrTwice
	}
	if !has && c.what == "Update" {
		return api.ErrLost
	}
	if len(value) > 700 {
		return api.ErrMany
	}
	for _, x := range recordPairs(d, r) {
		if len(x.Key) > 255 {
			return api.ErrMany
		}
	}
	return nil
}

func (p plainTable) byFault(c call) error {
	if c.index < 0 || c.index >= len(p.def.Indexes) || len(c.items) > len(p.def.Indexes[c.index]) {
		return api.ErrArg
	}
	for i, x := range c.items {
		if x.Kind != api.ItemNull && x.Kind != p.def.Fields[p.def.Indexes[c.index][i]].Kind {
			return api.ErrKind
		}
	}
	if _, err := tuple.Pack(c.items); err != nil {
		return err
	}
	if _, err := tuple.Pack(append(items(text("index"), text(c.name), num(c.index)), c.items...)); err != nil {
		return api.ErrMany
	}
	return nil
}

// answer is what a call answers, and does it.
func (m *model) answer(c call) answer {
	if err := m.fault(c); err != nil {
		return refused(err)
	}
	w := m.world()
	p := w.tables[c.name]
	switch c.what {
	case "Define":
		w.made["tables"], w.made["rows"], w.made["index"] = 1, 1, 1
		w.tables[c.table.Name] = plainTable{def: copiedTable(c.table), rows: map[int][]api.Item{}}
	case "Table":
		return answer{table: p.def}
	case "Insert", "Update":
		p.rows[c.row.ID] = copiedItems(c.row.Items)
	case "Remove":
		delete(p.rows, c.row.ID)
	case "Row":
		return answer{row: row(c.row.ID, p.rows[c.row.ID]...)}
	case "Rows":
		return answer{rows: p.all()}
	case "By":
		return answer{rows: p.by(c.index, c.items)}
	}
	return answer{}
}

func copiedTable(d api.Table) api.Table {
	c := api.Table{Name: strings.Clone(d.Name), Fields: slices.Clone(d.Fields)}
	for _, index := range d.Indexes {
		c.Indexes = append(c.Indexes, slices.Clone(index))
	}
	return c
}

func copiedItems(l []api.Item) []api.Item {
	var c []api.Item
	for _, x := range l {
		x.List = copiedItems(x.List)
		c = append(c, x)
	}
	return c
}

func (p plainTable) all() []api.Row {
	var l []api.Row
	for _, id := range slices.Sorted(maps.Keys(p.rows)) {
		l = append(l, row(id, p.rows[id]...))
	}
	return l
}

// by looks through all records.
func (p plainTable) by(index int, asked []api.Item) []api.Row {
	picked := func(r api.Row) []api.Item {
		var l []api.Item
		for _, n := range p.def.Indexes[index] {
			l = append(l, r.Items[n])
		}
		return l
	}
	l := slices.DeleteFunc(p.all(), func(r api.Row) bool { return !sameItems(picked(r)[:len(asked)], asked) })
	slices.SortStableFunc(l, func(a, b api.Row) int {
		c, err := tuple.Compare(picked(a), picked(b))
		if err != nil {
			panic(err)
		}
		return c
	})
	return l
}

// twin is a store with its tables, and their model.
type twin struct {
	t    *testing.T
	d    *device.Device
	s    *kv.Store
	r    *table.Tables
	m    *model
	seen map[string]int
}

// working is one whose store is empty, in a transaction.
func working(t *testing.T, pages int) *twin {
	t.Helper()
	w := &twin{t: t, d: device.New(8 * pages), m: &model{counts: newWorld()}, seen: map[string]int{}}
	w.s = kv.New(w.d)
	w.r = table.New(w.s)
	must(t, w.s.Format())
	w.open()
	w.begin()
	return w
}

func (w *twin) open() {
	w.t.Helper()
	must(w.t, w.s.Open())
	w.m.status = api.Opened
}

func (w *twin) begin() {
	w.t.Helper()
	must(w.t, w.s.Begin())
	w.m.status, w.m.hand = api.Working, w.m.counts.copied()
}

func (w *twin) commit() {
	w.t.Helper()
	must(w.t, w.s.Commit())
	w.m.status, w.m.counts = api.Opened, w.m.hand
}

func (w *twin) rollback() {
	w.t.Helper()
	must(w.t, w.s.Rollback())
	w.m.status = api.Opened
}

func (w *twin) close() {
	w.t.Helper()
	must(w.t, w.s.Close())
	w.m.status = api.Closed
}

// again is a new store over the device, with the power back, opened.
func (w *twin) again() {
	w.t.Helper()
	w.d.Revive()
	w.s = kv.New(w.d)
	w.r = table.New(w.s)
	w.open()
}

// put is a pair of somebody else, in no space of the tables.
func (w *twin) put(key, value string) {
	w.t.Helper()
	must(w.t, w.s.Put(key, value))
	w.m.hand.others[key] = value
}

// do makes a call, and holds its answer against the model's.
func (w *twin) do(c call) answer {
	w.t.Helper()
	status := w.s.Status()
	if status != w.m.status {
		w.t.Fatalf("ahead of %v: %s, want %s", c, statusNames[status], statusNames[w.m.status])
	}
	want := w.m.answer(c)
	got := c.of(w.r)
	if !got.equals(want) {
		w.t.Fatalf("%v in %s = %v, want %v", c, statusNames[status], got, want)
	}
	if w.s.Status() != status {
		w.t.Fatalf("%v: %s behind %s", c, statusNames[w.s.Status()], statusNames[status])
	}
	w.seen[fmt.Sprint(c.what, " in ", statusNames[status], ": ", want.err)]++
	return got
}

// want makes a call, and holds its error against one that stands there.
func (w *twin) want(err error, c call) answer {
	w.t.Helper()
	a := w.do(c)
	if a.err != err {
		w.t.Fatalf("%v = %v, want %v", c, a.err, err)
	}
	return a
}

// wantIDs makes a call, and holds the numbers of its records against these.
func (w *twin) wantIDs(c call, ids ...int) {
	w.t.Helper()
	if a := w.want(nil, c); !slices.Equal(a.ids(), ids) {
		w.t.Fatalf("%v: %v, want %v", c, a.ids(), ids)
	}
}

func (w *twin) with(l ...api.Table) *twin {
	w.t.Helper()
	for _, d := range l {
		w.want(nil, define(d))
	}
	return w
}

// whole holds all that can be asked, and all pairs at hand, against the model.
func (w *twin) whole() {
	w.t.Helper()
	for _, name := range slices.Sorted(maps.Keys(w.m.world().tables)) {
		w.do(call{what: "Table", name: name})
		w.do(call{what: "Rows", name: name})
		for i := range w.m.world().tables[name].def.Indexes {
			w.do(by(name, i))
		}
	}
	w.samePairs("")
}

// samePairs holds the pairs at hand against the model's: each record, each entry, and no other.
func (w *twin) samePairs(what string) {
	w.t.Helper()
	if got, want := stored(w.t, w.s), w.m.world().pairs(); !maps.Equal(got, want) {
		w.t.Fatalf("%s: the store has %d pairs that are others, want %d", what, len(got), len(want))
	}
}

// stored is all pairs of a store.
func stored(t *testing.T, s *kv.Store) book {
	t.Helper()
	b, from := book{}, ""
	for {
		l, err := s.Scan(from, "", 1000)
		must(t, err)
		for _, p := range l {
			b[p.Key] = p.Value
			from = p.Key + "\x00"
		}
		if len(l) < 1000 {
			return b
		}
	}
}

func must(t *testing.T, err error) {
	t.Helper()
	if err != nil {
		t.Fatal(err)
	}
}

// randomText is one of few, so that it is met again, with bytes that a packed text writes in another way.
func randomText(r *rand.Rand) string {
	const bytes = "ab\x00\xff\x01z"
	var l []byte
	for range r.Intn(4) {
		l = append(l, bytes[r.Intn(len(bytes))])
	}
	return string(l)
}

// randomItem is null, or an item of a kind, with room for so many lists in one another.
func randomItem(r *rand.Rand, kind, room int) api.Item {
	if r.Intn(6) == 0 {
		return null()
	}
	switch kind {
	case api.ItemFlag:
		return flag(r.Intn(2))
	case api.ItemNum:
		return num([]int{0, 1, -1, 5, 1<<63 - 1, -1 << 63, 256}[r.Intn(7)])
	case api.ItemText:
		return text(randomText(r))
	case api.ItemList:
		l := listOf()
		for range r.Intn(3) {
			l.List = append(l.List, randomItem(r, api.ItemFlag+r.Intn(min(room, 2)+2), room-1))
		}
		return l
	}
	return null()
}

// randomRow is a record that fits a table.
func randomRow(r *rand.Rand, d api.Table, id int) api.Row {
	x := row(id)
	for _, f := range d.Fields {
		x.Items = append(x.Items, randomItem(r, f.Kind, 4))
	}
	return x
}
