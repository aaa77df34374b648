package table_test

import (
	"slices"
	"testing"
	"unsafe"

	"copse/api"
)

// loose is a text whose memory can be written over.
func loose(s string) (string, []byte) {
	p := []byte(s)
	return unsafe.String(&p[0], len(p)), p
}

// roomy is a list of items with something in the room behind its end, inner lists too.
func roomy(l []api.Item) []api.Item {
	wide := append(slices.Clone(l), text("behind"), num(7))
	for i := range wide {
		if wide[i].Kind == api.ItemList {
			wide[i].List = roomy(wide[i].List)
		}
	}
	return wide[:len(l)]
}

// withRoom is a definition with something in the room behind the ends of its lists.
func withRoom(d api.Table) api.Table {
	d.Fields = append(slices.Clone(d.Fields), field("behind", 3), field("more", 4))[:len(d.Fields)]
	wide := [][]int{}
	for _, index := range d.Indexes {
		wide = append(wide, append(slices.Clone(index), 0, 99)[:len(index)])
	}
	d.Indexes = append(wide, []int{77})[:len(wide)]
	return d
}

// copyOf is a list with all that is in its room, in memory of its own.
func copyOf(l []api.Item) []api.Item {
	c := slices.Clone(l[:cap(l)])
	for i := range c {
		if c[i].List != nil {
			c[i].List = copyOf(c[i].List)
		}
	}
	return c
}

// copyOfTable is a definition with all that is in the room of its lists.
func copyOfTable(d api.Table) api.Table {
	c := api.Table{Name: d.Name, Fields: slices.Clone(d.Fields[:cap(d.Fields)])}
	for _, index := range d.Indexes[:cap(d.Indexes)] {
		c.Indexes = append(c.Indexes, slices.Clone(index[:cap(index)]))
	}
	return c
}

// scrawl writes over a list, the room behind it and the lists in it.
func scrawl(l []api.Item) {
	wide := l[:cap(l)]
	for i := range wide {
		scrawl(wide[i].List)
		wide[i] = api.Item{Kind: 77, Num: -77, Text: "scrawl"}
	}
}

func scrawlTable(d api.Table) {
	for i := range d.Fields[:cap(d.Fields)] {
		d.Fields[:cap(d.Fields)][i] = field("scrawl", -77)
	}
	for _, index := range d.Indexes[:cap(d.Indexes)] {
		for i := range index[:cap(index)] {
			index[:cap(index)][i] = -77
		}
	}
	clear(d.Indexes[:cap(d.Indexes)])
}

func sampleRows() []api.Row {
	return []api.Row{
		row(1, flag(1), num(5), text("x"), listOf(num(1), listOf(text("y"), listOf()))),
		row(2, null(), null(), null(), null()),
		row(3, flag(0), num(5), text("x"), listOf(listOf(num(1), num(2)), listOf(num(1), num(2)))),
		row(4, flag(1), num(5), text("x"), listOf(num(1), listOf(text("y"), listOf()))),
	}
}

func TestP17_10_DefinitionsHandedInAreNeitherChangedNorKept(t *testing.T) {
	w := working(t, 60)
	for _, d := range []api.Table{people(), things(), notes()} {
		for _, want := range []error{nil, api.ErrTwice} {
			given := withRoom(d)
			before := copyOfTable(given)
			w.want(want, define(given))
			if !sameTable(copyOfTable(given), before) {
				t.Fatalf("Define has changed %v or what lies behind it", d.Name)
			}
			scrawlTable(given)
			w.whole()
		}
	}
}

func TestP17_10_ItemsHandedInAreNeitherChangedNorKept(t *testing.T) {
	w := working(t, 60).with(things())
	wrong := row(1, flag(1), num(1), text("x"), deep(5))
	for _, what := range []string{"Insert", "Update", "Insert"} {
		for _, r := range append(sampleRows(), wrong) {
			r.Items = roomy(r.Items)
			before := copyOf(r.Items)
			w.do(call{what: what, name: "things", row: r})
			if !sameItems(copyOf(r.Items), before) {
				t.Fatalf("%s has changed its items or what lies behind them", what)
			}
			scrawl(r.Items)
			w.whole()
		}
	}
	for _, r := range sampleRows() {
		for i, index := range things().Indexes {
			for n := range len(index) + 1 {
				var l []api.Item
				for _, f := range index[:n] {
					l = append(l, r.Items[f])
				}
				l = roomy(l)
				before := copyOf(l)
				a := w.want(nil, by("things", i, l...))
				if !sameItems(copyOf(l), before) {
					t.Fatal("By has changed its items or what lies behind them")
				}
				kept := copiedRows(a.rows)
				scrawl(l)
				if !slices.EqualFunc(a.rows, kept, sameRow) {
					t.Fatal("what By answers shares memory with its items")
				}
			}
		}
	}
}

func copiedRows(l []api.Row) []api.Row {
	var c []api.Row
	for _, r := range l {
		c = append(c, api.Row{ID: r.ID, Items: copiedItems(r.Items)})
	}
	return c
}

func TestP17_10_TextsHandedInAreNotKept(t *testing.T) {
	w := working(t, 60)
	name, nameBytes := loose("people")
	first, firstBytes := loose("name")
	must(t, w.r.Define(api.Table{Name: name, Fields: []api.Field{field(first, api.ItemText), field("age", api.ItemNum)}, Indexes: [][]int{{1, 0}}}))
	copy(nameBytes, "others")
	copy(firstBytes, "othe")
	w.m.answer(define(people()))
	w.whole()
	for _, what := range []string{"Insert", "Update"} {
		name, nameBytes = loose("people")
		word, wordBytes := loose("word")
		c := call{what: what, name: name, row: row(1, text(word), num(1))}
		must(t, c.of(w.r).err)
		copy(nameBytes, "others")
		copy(wordBytes, "othe")
		w.m.answer(call{what: what, name: "people", row: row(1, text("word"), num(1))})
		w.whole()
	}
	name, nameBytes = loose("people")
	d, err := w.r.Table(name)
	copy(nameBytes, "others")
	if !sameTable(d, people()) || err != nil {
		t.Errorf("the definition that was answered is %v, %v: it hangs on the name that was handed in", d, err)
	}
	name, nameBytes = loose("people")
	word, wordBytes := loose("word")
	rows, err := w.r.By(name, 0, items(num(1), text(word)))
	copy(nameBytes, "others")
	copy(wordBytes, "othe")
	if len(rows) != 1 || err != nil || !sameRow(rows[0], row(1, text("word"), num(1))) {
		t.Errorf("the records that were answered are %v, %v", rows, err)
	}
	name, nameBytes = loose("people")
	must(t, w.r.Remove(name, 1))
	copy(nameBytes, "others")
	w.m.answer(remove("people", 1))
	w.whole()
}

// alone holds that a list of items shares no memory with others: it is written over, with its room, and they stay.
func alone(t *testing.T, what string, l []api.Item, others ...[]api.Item) {
	t.Helper()
	var before [][]api.Item
	for _, o := range others {
		before = append(before, copyOf(o))
	}
	kept := copyOf(l)
	scrawl(l)
	for i, o := range others {
		if !sameItems(copyOf(o), before[i]) {
			t.Fatalf("%s: it shares memory with another list", what)
		}
	}
	copy(l[:cap(l)], kept)
}

func TestP17_10_RecordsAreNewMemory(t *testing.T) {
	w := working(t, 60).with(things())
	for _, r := range sampleRows() {
		w.want(nil, insert("things", r))
	}
	for _, c := range []call{{what: "Rows", name: "things"}, by("things", 0), by("things", 3, num(5)), by("things", 2, flag(1))} {
		first, second := w.want(nil, c), w.want(nil, c)
		for i, r := range first.rows {
			var others [][]api.Item
			for j, o := range first.rows {
				if i != j {
					others = append(others, o.Items)
				}
			}
			alone(t, c.what, r.Items, append(others, second.rows[i].Items)...)
		}
		for i := range first.rows {
			scrawl(first.rows[i].Items)
		}
		for i := range first.rows[:cap(first.rows)] {
			first.rows[:cap(first.rows)][i] = row(-77)
		}
		w.whole()
		if !second.equals(w.do(c)) {
			t.Errorf("%v: an answer that was kept has changed", c)
		}
	}
	first, second := w.want(nil, call{what: "Row", name: "things", row: row(3)}), w.want(nil, call{what: "Row", name: "things", row: row(3)})
	inner := first.row.Items[3].List
	alone(t, "an inner list", inner[0].List, inner[1].List)
	alone(t, "Row", first.row.Items, second.row.Items)
	scrawl(first.row.Items)
	w.whole()
}

func TestP17_10_DefinitionsAreNewMemory(t *testing.T) {
	w := working(t, 60).with(things(), notes())
	c := call{what: "Table", name: "things"}
	first, second := w.want(nil, c).table, w.want(nil, c).table
	for i := range first.Indexes {
		_ = append(first.Indexes[i], 77)
		_ = append(first.Fields, field("scrawl", 77))
		if !sameTable(first, things()) {
			t.Fatalf("the lists of a definition share room: %v", first)
		}
	}
	for i, index := range first.Indexes {
		for j := range index[:cap(index)] {
			index[:cap(index)][j] = -77
		}
		for k := range first.Indexes {
			if k > i && !slices.Equal(first.Indexes[k], things().Indexes[k]) {
				t.Fatalf("the indexes %d and %d share memory", i, k)
			}
		}
	}
	scrawlTable(first)
	w.whole()
	if !sameTable(second, things()) {
		t.Errorf("a definition that was kept has changed: %v", second)
	}
	w.want(nil, insert("things", sampleRows()[0]))
	w.whole()
}
