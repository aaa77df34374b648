package query_test

import (
	"slices"
	"testing"
	"unsafe"

	"copse/api"
	"copse/query"
	"copse/table"
)

// loose is a text whose memory can be written over.
func loose(s string) (string, []byte) {
	p := []byte(s)
	return unsafe.String(&p[0], len(p)), p
}

// roomy is a list of items with something in the room behind its end, inner lists too.
func roomy(l []api.Item) []api.Item {
	wide := append(slices.Clone(l), text("behind"), num(7))
	for i := range wide {
		if wide[i].Kind == api.ItemList {
			wide[i].List = roomy(wide[i].List)
		}
	}
	return wide[:len(l)]
}

// withRoom is conditions with something in the room behind them and behind the lists in them.
func withRoom(l []api.Condition) []api.Condition {
	wide := append(slices.Clone(l), where("behind", 9, num(7)), where("more", -1, api.Item{}))
	for i := range wide {
		wide[i].Item = roomy([]api.Item{wide[i].Item})[0]
	}
	return wide[:len(l)]
}

// copyOf is a list with all that is in its room, in memory of its own.
func copyOf(l []api.Item) []api.Item {
	c := slices.Clone(l[:cap(l)])
	for i := range c {
		if c[i].List != nil {
			c[i].List = copyOf(c[i].List)
		}
	}
	return c
}

func copyOfConditions(l []api.Condition) []api.Condition {
	c := slices.Clone(l[:cap(l)])
	for i := range c {
		c[i].Item.List = copyOf(c[i].Item.List)
	}
	return c
}

// scrawl writes over a list, the room behind it and the lists in it.
func scrawl(l []api.Item) {
	wide := l[:cap(l)]
	for i := range wide {
		scrawl(wide[i].List)
		wide[i] = api.Item{Kind: 77, Num: -77, Text: "scrawl"}
	}
}

func scrawlConditions(l []api.Condition) {
	wide := l[:cap(l)]
	for i := range wide {
		scrawl(wide[i].Item.List)
		wide[i] = where("scrawl", 77, api.Item{Kind: 77})
	}
}

// roomyTable is a definition with something in the room behind its lists.
func roomyTable(d api.Table) api.Table {
	d.Fields = append(slices.Clone(d.Fields), field("behind", 3), field("f", 4))[:len(d.Fields)]
	wide := [][]int{}
	for _, index := range d.Indexes {
		wide = append(wide, append(slices.Clone(index), 0, 99)[:len(index)])
	}
	d.Indexes = append(wide, []int{77})[:len(wide)]
	return d
}

func copyOfTable(d api.Table) api.Table {
	c := api.Table{Name: d.Name, Fields: slices.Clone(d.Fields[:cap(d.Fields)])}
	for _, index := range d.Indexes[:cap(d.Indexes)] {
		c.Indexes = append(c.Indexes, slices.Clone(index[:cap(index)]))
	}
	return c
}

func sameTable(a, b api.Table) bool {
	return a.Name == b.Name && slices.Equal(a.Fields, b.Fields) && slices.EqualFunc(a.Indexes, b.Indexes, slices.Equal[[]int])
}

const longQuestion = "from people where `a``b` = \"text\" and list >= [1, [\"one\", [true]], [\"one\", [true]]] and name < [[], []] order by other limit 7"

func TestP18_8_ParseKeepsNothingOfTheText(t *testing.T) {
	want, err := query.Parse(longQuestion)
	must(t, err)
	s, bytes := loose(longQuestion)
	q, err := query.Parse(s)
	must(t, err)
	for i := range bytes {
		bytes[i] = 'z'
	}
	if !sameQuery(q, want) || textOf(q) != longQuestion {
		t.Errorf("the query that was answered hangs on the text that was handed in: %q", textOf(q))
	}
	s, bytes = loose("from T where f = \"x")
	if _, err := query.Parse(s); err != api.ErrText || string(bytes) != "from T where f = \"x" {
		t.Errorf("%v, %q", err, bytes)
	}
}

// innerLists is all lists that lie in a list, and the list.
func innerLists(l []api.Item) [][]api.Item {
	all := [][]api.Item{l}
	for _, x := range l {
		if x.Kind == api.ItemList {
			all = append(all, innerLists(x.List)...)
		}
	}
	return all
}

// Of all lists of an answer each is written over behind its end: no other one changes.
func TestP18_8_ParsedListsShareNoMemory(t *testing.T) {
	first, err := query.Parse(longQuestion)
	must(t, err)
	second, err := query.Parse(longQuestion)
	must(t, err)
	_ = append(first.Conditions, where("scrawl", 77, api.Item{}))
	for _, c := range first.Conditions {
		for _, l := range innerLists([]api.Item{c.Item}) {
			for i := range l[len(l):cap(l)] {
				l[len(l):cap(l)][i] = api.Item{Kind: 77}
			}
		}
	}
	if textOf(first) != longQuestion {
		t.Errorf("what lies behind the lists is shared: %q", textOf(first))
	}
	l := first.Conditions[1].Item.List
	scrawl(l[1].List)
	if !sameItem(l[2], second.Conditions[1].Item.List[2]) {
		t.Error("two lists of one answer share memory")
	}
	scrawlConditions(first.Conditions)
	if textOf(second) != longQuestion {
		t.Error("two answers share memory")
	}
	third, err := query.Parse(longQuestion)
	if err != nil || textOf(third) != longQuestion {
		t.Errorf("parsed again: %q, %v", textOf(third), err)
	}
}

func TestP18_8_PrintChangesAndKeepsNothing(t *testing.T) {
	q, err := query.Parse(longQuestion)
	must(t, err)
	q.Conditions = withRoom(q.Conditions)
	before := copyOfConditions(q.Conditions)
	name, nameBytes := loose("people")
	word, wordBytes := loose("text")
	q.Table, q.Conditions[0].Item.Text = name, word
	s, err := query.Print(q)
	must(t, err)
	if !slices.EqualFunc(copyOfConditions(q.Conditions), before, sameCondition) {
		t.Error("Print has changed its conditions or what lies behind them")
	}
	copy(nameBytes, "others")
	copy(wordBytes, "othe")
	scrawlConditions(q.Conditions)
	if s != longQuestion {
		t.Errorf("the text that was answered hangs on the query: %q", s)
	}
}

func TestP18_8_MatchAndChooseChangeNothing(t *testing.T) {
	for _, l := range [][]api.Condition{
		{where("a", 1, num(1)), where("d", 5, listOf(num(1), listOf(text("x"))))}, {where("d", 1, listOf(listOf(), listOf(num(1))))}, {where("d", 2, deep(5))}, {where("x", 1, listOf(num(1)))}, nil,
	} {
		d, q := roomyTable(abc([]int{0, 3}, []int{3})), from("T", withRoom(l)...)
		items := roomy([]api.Item{num(1), text("x"), null(), listOf(num(1), listOf(text("y")))})
		beforeTable, before, beforeItems := copyOfTable(d), copyOfConditions(q.Conditions), copyOf(items)
		ok, err := query.Match(d, row(1, items...), q.Conditions)
		plan, planErr := query.Choose(d, q)
		for range 2 {
			if again, err2 := query.Match(d, row(1, items...), q.Conditions); again != ok || err2 != err {
				t.Errorf("Match, asked twice, has two answers: %v, %v", again, err2)
			}
			if again, err2 := query.Choose(d, q); again != plan || err2 != planErr {
				t.Errorf("Choose, asked twice, has two answers: %v, %v", again, err2)
			}
		}
		if !sameTable(copyOfTable(d), beforeTable) || !slices.EqualFunc(copyOfConditions(q.Conditions), before, sameCondition) || !sameItems(copyOf(items), beforeItems) {
			t.Errorf("%v: something that was handed in has changed", l)
		}
		match(t, d, row(1, items...), l...)
		choose(t, d, q)
	}
}

func TestP18_8_AskChangesAndKeepsNothingThatIsHandedIn(t *testing.T) {
	r := newRand(81)
	w := layoutShop(t, r, 40)
	for range 200 {
		q := questionOf(r)
		q.Table = []string{"t0", "t2", "t3", "t5"}[r.Intn(4)]
		want := plainAnswer(w.defs[q.Table], w.rows[q.Table], q)
		name, nameBytes := loose(q.Table)
		asked := ordered(from(name, withRoom(q.Conditions)...), q.Order, q.Falling, q.Limit)
		before := copyOfConditions(asked.Conditions)
		rows, err := query.Ask(w.tables, asked)
		must(t, err)
		if !slices.EqualFunc(copyOfConditions(asked.Conditions), before, sameCondition) || string(nameBytes) != q.Table {
			t.Fatalf("%s: Ask has changed its query or what lies behind it", textOf(q))
		}
		copy(nameBytes, "zz")
		scrawlConditions(asked.Conditions)
		if !sameRows(rows, want) {
			t.Fatalf("%s: the answer hangs on the query", textOf(q))
		}
		w.ask(q)
	}
}

func TestP18_8_RowsAreNewMemory(t *testing.T) {
	r := newRand(82)
	w := layoutShop(t, r, 40)
	for _, s := range []string{"from t0", "from t3 where a = 1", "from t2 order by d falling limit 7", "from t5 where a >= 0 limit 3", "from t3 where c = true order by b"} {
		q, err := query.Parse(s)
		must(t, err)
		want := plainAnswer(w.defs[q.Table], w.rows[q.Table], q)
		if len(want) < 2 {
			t.Fatalf("%s: %d records", s, len(want))
		}
		first, second := w.ask(q), w.ask(q)
		_ = append(first, row(-77))
		for i, x := range first {
			_ = append(x.Items, num(-77))
			for _, l := range innerLists(x.Items) {
				_ = append(l, num(-77))
			}
			if !sameRows(first[i:], want[i:]) {
				t.Fatalf("%s: the room behind a list is another's", s)
			}
			scrawl(x.Items)
			if !sameRows(first[i+1:], want[i+1:]) || !sameRows(second, want) {
				t.Fatalf("%s: the record %d shares memory with another", s, x.ID)
			}
		}
		for i := range first[:cap(first)] {
			first[:cap(first)][i] = row(-77)
		}
		if !sameRows(second, want) {
			t.Fatalf("%s: two answers share memory", s)
		}
		w.ask(q)
	}
}

// Tables that no constructor has given: there is nothing to ask.
func TestP18_8_NoTables(t *testing.T) {
	for _, tables := range []*table.Tables{nil, {}} {
		for q, want := range map[*api.Query]error{{Table: "T"}: api.ErrArg, {Table: "T", Limit: -1}: api.ErrArg, {Table: "T", Conditions: []api.Condition{where("f", 1, deep(5))}}: api.ErrMany} {
			if rows, err := query.Ask(tables, *q); rows != nil || err != want {
				t.Errorf("%v, %v, want %v", rows, err, want)
			}
		}
	}
}

// Whatever is handed in: the calls end, and none panics.
func TestP18_8_AnyArguments(t *testing.T) {
	t.Parallel()
	r := newRand(83)
	w := layoutShop(t, r, 10)
	short := wrongItems()[:19]
	anyItem := func() api.Item { return short[r.Intn(len(short))] }
	name := func() string { return append([]string{"a", "b", "t1", "t3"}, wrongNames...)[r.Intn(16)] }
	for range 20000 {
		d := api.Table{Name: name()}
		for range r.Intn(4) {
			d.Fields = append(d.Fields, field(name(), r.Intn(9)-1))
		}
		for range r.Intn(3) {
			d.Indexes = append(d.Indexes, []int{r.Intn(6) - 2, r.Intn(6) - 2}[:r.Intn(3)])
		}
		q := ordered(from(name()), name(), r.Intn(2) == 0, r.Intn(5)-1)
		x := row(r.Intn(5) - 2)
		for range r.Intn(4) {
			q.Conditions = append(q.Conditions, where(name(), r.Intn(8)-1, anyItem()))
			x.Items = append(x.Items, anyItem())
		}
		choose(t, d, q)
		match(t, d, x, q.Conditions...)
		if fault := plainFault(q); fault != nil {
			w.refused(q, fault)
			wantNoText(t, q, fault)
		} else if _, err := query.Ask(w.tables, q); err != nil && err != api.ErrLost {
			t.Errorf("%v: %v", q, err)
		}
		bytes := make([]byte, r.Intn(40))
		r.Read(bytes)
		if _, err := query.Parse(string(bytes)); err != api.ErrText {
			t.Errorf("%q: %v", bytes, err)
		}
		if t.Failed() {
			return
		}
	}
}
