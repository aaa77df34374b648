package table_test

import (
	"math"
	"slices"
	"strings"
	"testing"

	"copse/api"
	"copse/device"
	"copse/kv"
	"copse/space"
	"copse/table"
)

// inEachStatus does something to tables whose store is in each of the statuses and has the tables people, with the records 1 and 2, and notes, with none.
func inEachStatus(t *testing.T, do func(w *twin)) {
	t.Helper()
	for _, status := range []int{api.Working, api.Opened, api.Closed, api.Broken, api.Dead} {
		w := working(t, 40).with(people(), notes())
		w.want(nil, insert("people", row(1, text("ann"), num(30))))
		w.want(nil, insert("people", row(2, text("bob"), null())))
		w.commit()
		switch status {
		case api.Working:
			w.begin()
		case api.Closed:
			w.close()
		case api.Broken:
			w.breakIt()
		case api.Dead:
			w.d.Crash(nil)
			if _, _, err := w.s.Get("a"); err != api.ErrDead {
				t.Fatalf("Get of a dead device: %v", err)
			}
		}
		w.m.status = status
		do(w)
	}
}

// breakIt lets a Commit find no room.
func (w *twin) breakIt() {
	w.t.Helper()
	w.begin()
	for i := range 200 {
		must(w.t, w.s.Put("k"+strings.Repeat(string(rune('a'+i%26)), 1+i), strings.Repeat("v", 700)))
	}
	if err := w.s.Commit(); err != api.ErrFull {
		w.t.Fatalf("Commit = %v", err)
	}
}

// wrongRows are records with one fault or several, and some with none.
func wrongRows() []api.Row {
	foreign := api.Item{Kind: api.ItemText, Num: 1}
	long := func(n int) api.Item { return text(strings.Repeat("x", n)) }
	var l []api.Row
	for _, id := range []int{0, 1, -1, math.MaxInt, math.MinInt} {
		for _, x := range [][]api.Item{
			nil, {text("x")}, {text("x"), num(1)}, {null(), null()}, {text("x"), num(1), null()}, {num(1), text("x")}, {num(1)},
			{api.Item{}, num(1)}, {text("x"), api.Item{Kind: 9}}, {foreign, num(1)}, {foreign, text("x")}, {foreign}, {text("x"), flag(1)}, {text("x"), deep(5)},
			{api.Item{Kind: api.ItemNull, Text: "x"}, num(1)}, {api.Item{Kind: api.ItemNull, List: items(num(1))}, api.Item{Kind: 9}},
			{long(200), num(1)}, {long(300), num(1)}, {long(700), num(1)}, {long(65536), num(1)}, {long(65536), api.Item{Kind: api.ItemNum, Text: "x"}}, {long(65536), text("x")},
		} {
			l = append(l, api.Row{ID: id, Items: x})
		}
	}
	return l
}

var wrongNames = []string{"people", "notes", "none", "", strings.Repeat("n", 32), strings.Repeat("n", 33), " ", "a b", "\x7f", "a\x80", "\x00", "é", "people\x00"}

func TestP17_3_TheOrderOfRefusals(t *testing.T) {
	inEachStatus(t, func(w *twin) {
		for _, name := range wrongNames {
			for _, r := range wrongRows() {
				for _, what := range []string{"Insert", "Update", "Insert", "Remove", "Row"} {
					w.do(call{what: what, name: name, row: r})
				}
			}
			w.do(call{what: "Table", name: name})
			w.do(call{what: "Rows", name: name})
		}
		if w.m.status == api.Working || w.m.status == api.Opened {
			w.whole()
		}
	})
}

func TestP17_7_TheOrderOfRefusals(t *testing.T) {
	bad, foreign := api.Item{Kind: 9}, api.Item{Kind: api.ItemNum, Text: "x"}
	asked := [][]api.Item{
		nil, {num(30)}, {null()}, {num(30), text("ann")}, {num(30), text("ann"), null()}, {text("x")}, {bad}, {foreign}, {foreign, bad}, {bad, foreign}, {foreign, text("x")},
		{num(1), text(strings.Repeat("x", 65500))}, {num(1), text(strings.Repeat("x", 65536))}, {foreign, text(strings.Repeat("x", 65536))}, slices.Repeat(items(num(1)), 17), {deep(5)},
	}
	inEachStatus(t, func(w *twin) {
		for _, name := range wrongNames {
			for _, index := range []int{0, 1, -1, math.MaxInt, math.MinInt} {
				for _, l := range asked {
					w.do(by(name, index, l...))
				}
			}
		}
	})
}

func TestP17_1_TheOrderOfRefusals(t *testing.T) {
	wrong := func(name string) []api.Table {
		return []api.Table{{Name: name}, {Name: name, Fields: people().Fields}, {Name: name, Fields: people().Fields, Indexes: [][]int{{2}}}, {Name: name, Fields: []api.Field{field("f", 1)}}}
	}
	inEachStatus(t, func(w *twin) {
		for _, name := range wrongNames {
			for _, d := range wrong(name) {
				w.do(define(d))
			}
		}
		if w.m.status == api.Working {
			w.whole()
		}
	})
}

// The same, told here one by one, for the status Working.
func TestP17_3_TheOrderOfRefusalsInWords(t *testing.T) {
	foreign := api.Item{Kind: api.ItemText, Num: 1}
	long := func(n int) api.Item { return text(strings.Repeat("x", n)) }
	for _, c := range []struct {
		call call
		want error
	}{
		{define(api.Table{Name: "people"}), api.ErrArg},
		{define(people()), api.ErrTwice},
		{call{what: "Table", name: " "}, api.ErrArg},
		{call{what: "Table", name: "none"}, api.ErrLost},
		{insert("", row(-1)), api.ErrArg},
		{insert("none", row(-1)), api.ErrLost},
		{insert("none", row(1, num(1), num(1))), api.ErrLost},
		{insert("people", row(-1, num(1), num(1))), api.ErrArg},
		{insert("people", row(3, num(1))), api.ErrArg},
		{insert("people", row(3, foreign, text("x"))), api.ErrKind},
		{insert("people", row(1, text("x"), text("x"))), api.ErrKind},
		{insert("people", row(1, foreign, num(1))), api.ErrArg},
		{insert("people", row(1, long(65536), num(1))), api.ErrMany},
		{insert("people", row(1, long(65000), num(1))), api.ErrTwice},
		{insert("people", row(1, long(700), num(1))), api.ErrTwice},
		{insert("people", row(1, long(250), num(1))), api.ErrTwice},
		{insert("people", row(3, long(250), num(1))), api.ErrMany},
		{insert("notes", row(3, long(250))), nil},
		{update("people", row(3, foreign, num(1))), api.ErrArg},
		{update("people", row(3, long(700), num(1))), api.ErrLost},
		{update("people", row(3, long(250), num(1))), api.ErrLost},
		{update("people", row(1, long(250), num(1))), api.ErrMany},
		{update("none", row(-1)), api.ErrLost},
		{update("", row(-1)), api.ErrArg},
		{remove("", -1), api.ErrArg},
		{remove("none", -1), api.ErrLost},
		{remove("people", -1), api.ErrLost},
		{remove("people", 3), api.ErrLost},
		{call{what: "Row", name: "", row: row(-1)}, api.ErrArg},
		{call{what: "Row", name: "none", row: row(1)}, api.ErrLost},
		{call{what: "Row", name: "people", row: row(-1)}, api.ErrLost},
		{call{what: "Rows", name: ""}, api.ErrArg},
		{call{what: "Rows", name: "none"}, api.ErrLost},
		{by("", -1, foreign), api.ErrArg},
		{by("none", -1, foreign), api.ErrLost},
		{by("people", 1, text("x")), api.ErrArg},
		{by("people", 0, text("x"), text("x"), text("x")), api.ErrArg},
		{by("people", 0, api.Item{Kind: api.ItemNum, Text: "x"}, num(1)), api.ErrKind},
		{by("people", 0, api.Item{Kind: api.ItemNum, Text: "x"}, long(65536)), api.ErrArg},
		{by("people", 0, num(1), long(65536)), api.ErrMany},
		{by("people", 0, num(1), long(65510)), api.ErrMany},
		{by("people", 0, num(1), long(60000)), nil},
	} {
		inEachStatus(t, func(w *twin) {
			want := c.want
			switch {
			case w.m.status == api.Dead:
				want = api.ErrDead
			case w.m.status != api.Working && (writes(c.call.what) || w.m.status != api.Opened):
				want = api.ErrStatus
			}
			if a := c.call.of(w.r); !a.equals(refused(want)) {
				t.Errorf("%v in %s = %v, want %v", c.call, statusNames[w.m.status], a, want)
			}
		})
	}
}

// The status is the store's: a device that has died since is told where the store is asked.
func TestP17_APowerFailureSinceTheLastCall(t *testing.T) {
	for _, c := range []call{
		define(things()), {what: "Table", name: "people"}, insert("people", row(2, text("x"), num(1))), update("people", row(1, text("x"), num(1))),
		remove("people", 1), {what: "Row", name: "people", row: row(1)}, {what: "Rows", name: "people"}, by("people", 0), insert("people", api.Row{}), by("people", 9),
	} {
		w := working(t, 40).with(people())
		w.want(nil, insert("people", row(1, text("ann"), num(30))))
		w.d.Crash(nil)
		for range 2 {
			if a := c.of(w.r); !a.equals(refused(api.ErrDead)) || w.s.Status() != api.Dead {
				t.Errorf("%v of a dead device = %v, %s", c, a, statusNames[w.s.Status()])
			}
			w.d.Revive()
		}
		if a := (call{what: c.what}).of(w.r); !a.equals(refused(api.ErrDead)) {
			t.Errorf("%s of nothing, of a dead store = %v", c.what, a)
		}
	}
}

func TestP17_AStoreThatWasNeverOpened(t *testing.T) {
	r := table.New(kv.New(device.New(0)))
	for _, what := range calls {
		if a := (call{what: what, name: "a", table: people()}).of(r); !a.equals(refused(api.ErrStatus)) {
			t.Errorf("%s = %v", what, a)
		}
	}
}

// strangers are values that are no definition, or no record of people.
func strangers() []string {
	fields, index := listOf(listOf(text("name"), num(4)), listOf(text("age"), num(3))), listOf(listOf(num(1), num(0)))
	return []string{
		"", "x", "\x06", pack(null()), pack(num(1), num(2)), pack(fields), pack(fields, index, null()), pack(listOf(), listOf()), pack(index, fields), pack(fields, fields), pack(fields, listOf(num(1))),
		pack(listOf(text("name"), num(4)), index), pack(listOf(listOf(text("name"))), index), pack(listOf(listOf(text("name"), num(4))), listOf(listOf(num(1)))), pack(fields, listOf(listOf(num(-1)))),
		pack(fields, listOf(listOf(num(math.MaxInt)))), pack(fields, listOf(listOf())), pack(listOf(listOf(num(4), text("name")), listOf(num(3), text("age"))), index),
		pack(fields, listOf(listOf(text("x")))), pack(text("ann")), pack(text("ann"), num(1), num(2)), pack(num(1), text("ann")), pack(listOf(listOf(text("name"), num(9))), listOf()),
	}
}

// Of a store in which something else lies in the spaces it is promised that calls end and don't panic.
func TestP17_SomethingElseInTheSpaces(t *testing.T) {
	type place struct {
		space string
		key   []api.Item
	}
	places := []place{
		{"tables", items(text("people"))}, {"rows", items(text("people"), num(1))}, {"rows", items(text("people"))}, {"rows", items(text("people"), text("x"))}, {"rows", items(text("people"), num(1), num(2))},
		{"index", items(text("people"))}, {"index", items(text("people"), num(0))}, {"index", items(text("people"), num(0), num(30))}, {"index", items(text("people"), num(0), num(30), text("ann"), text("x"))},
		{"index", items(text("people"), num(0), num(30), text("zed"), num(77))}, {"index", items(text("people"), num(0), listOf(), listOf(), listOf(), listOf())},
	}
	for _, p := range places {
		for _, value := range strangers() {
			w := working(t, 40).with(people())
			w.want(nil, insert("people", row(1, text("ann"), num(30))))
			must(t, space.New(w.s).Put(p.space, p.key, value))
			everyCall(w.r)
		}
	}
	for _, name := range []string{"tables", "rows", "index"} {
		for _, whole := range []bool{false, true} {
			w := working(t, 40).with(people())
			w.want(nil, insert("people", row(1, text("ann"), num(30))))
			if whole {
				must(t, space.New(w.s).Drop(name))
			} else {
				_, err := w.s.Delete(pack(text(name)))
				must(t, err)
			}
			everyCall(w.r)
		}
	}
}

func everyCall(r *table.Tables) {
	for _, c := range []call{
		define(people()), define(things()), {what: "Table", name: "people"}, {what: "Row", name: "people", row: row(1)}, {what: "Rows", name: "people"}, by("people", 0), by("people", 0, num(30)), by("people", 1),
		insert("people", row(1, text("x"), num(1))), insert("people", row(2, text("x"), num(1))), update("people", row(1, text("y"), num(1))), remove("people", 1),
	} {
		c.of(r)
	}
}
