package table_test

import (
	"fmt"
	"math"
	"slices"
	"strings"
	"testing"

	"copse/api"
	"copse/device"
	"copse/kv"
	"copse/space"
	"copse/table"
	"copse/tuple"
)

func TestP17_ExamplesOfTheChapter(t *testing.T) {
	w := working(t, 40)
	w.want(nil, define(people()))
	w.want(api.ErrTwice, define(people()))
	for _, spoil := range []func(d *api.Table){
		func(d *api.Table) { d.Fields = nil }, func(d *api.Table) { d.Fields[0].Kind = 1 }, func(d *api.Table) { d.Indexes = [][]int{{2}} },
		func(d *api.Table) { d.Indexes = [][]int{{0, 0}} }, func(d *api.Table) { d.Indexes = [][]int{{}} },
	} {
		d := people()
		d.Name = "other"
		spoil(&d)
		w.want(api.ErrArg, define(d))
	}
	if a := w.want(nil, call{what: "Table", name: "people"}); !sameTable(a.table, people()) {
		t.Errorf("Table = %v", a)
	}
	w.want(api.ErrLost, call{what: "Table", name: "x"})
	w.want(api.ErrArg, call{what: "Table", name: ""})
	for _, r := range []api.Row{row(3, text("ann"), num(30)), row(1, text("bob"), num(30)), row(2, text("cyd"), null())} {
		w.want(nil, insert("people", r))
	}
	w.want(api.ErrTwice, insert("people", row(3, text("x"), num(1))))
	w.want(api.ErrArg, insert("people", row(4, text("x"))))
	w.want(api.ErrKind, insert("people", row(4, num(5), num(6))))
	w.want(api.ErrArg, insert("people", row(-1, text("x"), num(1))))
	w.wantIDs(call{what: "Rows", name: "people"}, 1, 2, 3)
	w.wantIDs(by("people", 0), 2, 3, 1)
	w.wantIDs(by("people", 0, num(30)), 3, 1)
	w.wantIDs(by("people", 0, num(30), text("bob")), 1)
	w.wantIDs(by("people", 0, null()), 2)
	w.want(api.ErrArg, by("people", 1))
	w.want(api.ErrKind, by("people", 0, text("x")))
	w.want(api.ErrArg, by("people", 0, num(1), text("a"), num(2)))
	w.want(nil, update("people", row(3, text("ann"), num(5))))
	w.wantIDs(by("people", 0, num(30)), 1)
	w.wantIDs(by("people", 0, num(5)), 3)
	w.want(api.ErrLost, update("people", row(9, text("x"), num(1))))
	w.want(api.ErrLost, remove("people", 9))
	w.want(api.ErrLost, call{what: "Row", name: "people", row: row(9)})
	w.want(api.ErrMany, insert("people", row(5, text(strings.Repeat("n", 250)), num(1))))
	w.want(nil, remove("people", 1))
	w.wantIDs(by("people", 0, num(30)))
	w.commit()
	w.want(api.ErrStatus, insert("people", row(6, text("x"), num(1))))
	if a := w.want(nil, call{what: "Row", name: "people", row: row(3)}); !sameRow(a.row, row(3, text("ann"), num(5))) {
		t.Errorf("Row = %v", a)
	}
	w.whole()
}

// What lies in the store stands here byte by byte.
func TestP17_1_WhatLiesInTheStore(t *testing.T) {
	w := working(t, 40).with(api.Table{Name: "t", Fields: []api.Field{field("f", api.ItemNum), field("g", api.ItemText)}, Indexes: [][]int{{1}, {1, 0}}})
	w.want(nil, insert("t", row(258, num(5), text("x"))))
	n := func(low string) string { return "\x03\x80\x00\x00\x00\x00\x00" + low }
	want := book{
		"\x04tables\x00\x00": "", "\x04rows\x00\x00": "", "\x04index\x00\x00": "",
		"\x04tables\x00\x00\x04t\x00\x00":                                                                  "\x05\x05\x04f\x00\x00" + n("\x00\x03") + "\x00\x05\x04g\x00\x00" + n("\x00\x04") + "\x00\x00\x05\x05" + n("\x00\x01") + "\x00\x05" + n("\x00\x01") + n("\x00\x00") + "\x00\x00",
		"\x04rows\x00\x00\x04t\x00\x00" + n("\x01\x02"):                                                    n("\x00\x05") + "\x04x\x00\x00",
		"\x04index\x00\x00\x04t\x00\x00" + n("\x00\x00") + "\x04x\x00\x00" + n("\x01\x02"):                 "",
		"\x04index\x00\x00\x04t\x00\x00" + n("\x00\x01") + "\x04x\x00\x00" + n("\x00\x05") + n("\x01\x02"): "",
	}
	got := stored(t, w.s)
	for k, v := range want {
		if g, is := got[k]; g != v || !is {
			t.Errorf("the key %q has %q, %v, want %q", k, g, is, v)
		}
	}
	if len(got) != len(want) {
		t.Errorf("%d pairs, want %d", len(got), len(want))
	}
}

func TestP17_1_TablesThatMayNotBe(t *testing.T) {
	fields := func(n int) []api.Field {
		var l []api.Field
		for i := range n {
			l = append(l, field(fmt.Sprint("f", i), 2+i%4))
		}
		return l
	}
	for i, c := range []struct {
		spoil func(d *api.Table)
		want  error
	}{
		{func(d *api.Table) {}, nil},
		{func(d *api.Table) { d.Name = "" }, api.ErrArg},
		{func(d *api.Table) { d.Name = "a b" }, api.ErrArg},
		{func(d *api.Table) { d.Name = strings.Repeat("n", 32) }, nil},
		{func(d *api.Table) { d.Name = strings.Repeat("n", 33) }, api.ErrArg},
		{func(d *api.Table) { d.Fields = nil }, api.ErrArg},
		{func(d *api.Table) { d.Fields, d.Indexes = nil, nil }, api.ErrArg},
		{func(d *api.Table) { d.Fields, d.Indexes = fields(1), nil }, nil},
		{func(d *api.Table) { d.Fields = fields(8) }, nil},
		{func(d *api.Table) { d.Fields = fields(9) }, api.ErrArg},
		{func(d *api.Table) { d.Fields, d.Indexes = fields(9), nil }, api.ErrArg},
		{func(d *api.Table) { d.Fields[0].Name = "age" }, api.ErrArg},
		{func(d *api.Table) { d.Fields = append(fields(7), field("f0", 2)) }, api.ErrArg},
		{func(d *api.Table) { d.Fields[1].Name = "" }, api.ErrArg},
		{func(d *api.Table) { d.Fields[1].Name = "a\x7f" }, api.ErrArg},
		{func(d *api.Table) { d.Fields[1].Name = strings.Repeat("~", 32) }, nil},
		{func(d *api.Table) { d.Fields[1].Name = strings.Repeat("~", 33) }, api.ErrArg},
		{func(d *api.Table) { d.Fields[1].Name = "people" }, nil},
		{func(d *api.Table) { d.Fields[1].Kind = 0 }, api.ErrArg},
		{func(d *api.Table) { d.Fields[1].Kind = 1 }, api.ErrArg},
		{func(d *api.Table) { d.Fields[1].Kind = 2 }, nil},
		{func(d *api.Table) { d.Fields[1].Kind = 5 }, nil},
		{func(d *api.Table) { d.Fields[1].Kind = 6 }, api.ErrArg},
		{func(d *api.Table) { d.Fields[1].Kind = math.MinInt }, api.ErrArg},
		{func(d *api.Table) { d.Fields[1].Kind = 3 + 1<<32 }, api.ErrArg},
		{func(d *api.Table) { d.Indexes = nil }, nil},
		{func(d *api.Table) { d.Indexes = [][]int{{0}, {0}, {0}, {0}} }, nil},
		{func(d *api.Table) { d.Indexes = [][]int{{0}, {0}, {0}, {0}, {0}} }, api.ErrArg},
		{func(d *api.Table) { d.Indexes = [][]int{{0}, {}} }, api.ErrArg},
		{func(d *api.Table) { d.Indexes = [][]int{nil, {0}} }, api.ErrArg},
		{func(d *api.Table) { d.Indexes = [][]int{{1}, {2}} }, api.ErrArg},
		{func(d *api.Table) { d.Indexes = [][]int{{0, -1}} }, api.ErrArg},
		{func(d *api.Table) { d.Indexes = [][]int{{math.MaxInt}} }, api.ErrArg},
		{func(d *api.Table) { d.Indexes = [][]int{{math.MinInt}} }, api.ErrArg},
		{func(d *api.Table) { d.Indexes = [][]int{{0, 1, 0}} }, api.ErrArg},
		{func(d *api.Table) { d.Indexes = [][]int{{0, 1}, {1, 0}, {0, 1}} }, nil},
		{func(d *api.Table) { d.Fields, d.Indexes = fields(8), [][]int{{7, 6, 5, 4, 3, 2, 1, 0}} }, nil},
		{func(d *api.Table) { d.Fields, d.Indexes = fields(8), [][]int{{7, 6, 5, 4, 3, 2, 1, 8}} }, api.ErrArg},
		{func(d *api.Table) { d.Fields, d.Indexes = fields(8), [][]int{slices.Repeat([]int{7}, 5000)} }, api.ErrArg},
	} {
		w := working(t, 40)
		d := people()
		c.spoil(&d)
		if a := w.do(define(d)); a.err != c.want {
			t.Errorf("number %d: Define(%v) = %v, want %v", i, d, a.err, c.want)
		}
		if c.want == nil {
			w.do(call{what: "Table", name: d.Name})
		} else if got := stored(t, w.s); len(got) != 0 {
			t.Errorf("number %d: a refused Define has put %d pairs", i, len(got))
		}
		w.whole()
	}
}

func TestP17_1_WhatANameIs(t *testing.T) {
	for b := range 256 {
		w := working(t, 40)
		want := api.ErrArg
		if b >= 0x21 && b <= 0x7E {
			want = nil
		}
		lost := want
		if want == nil {
			lost = api.ErrLost
		}
		for i, name := range []string{string([]byte{byte(b)}), "a" + string([]byte{byte(b)}) + "c", strings.Repeat("n", 31) + string([]byte{byte(b)})} {
			for _, what := range calls[1:] {
				w.want(lost, call{what: what, name: name})
			}
			d := people()
			d.Name = name
			w.want(want, define(d))
			d = people()
			d.Name = fmt.Sprint("of", i)
			d.Fields[0].Name = name
			w.want(want, define(d))
		}
		w.whole()
	}
}

// The greatest definition has the 668 bytes of which the chapter tells.
func TestP17_1_TheGreatestDefinition(t *testing.T) {
	big := api.Table{Name: strings.Repeat("n", 32)}
	for i := range 8 {
		big.Fields = append(big.Fields, field(strings.Repeat(string(rune('a'+i)), 32), 3))
	}
	for i := range 4 {
		var index []int
		for j := range 8 {
			index = append(index, (i+j)%8)
		}
		big.Indexes = append(big.Indexes, index)
	}
	w := working(t, 60).with(big)
	value, is, err := w.s.Get(definitionKey(big.Name))
	if len(value) != 668 || !is || err != nil {
		t.Errorf("the definition has %d bytes, %v, %v", len(value), is, err)
	}
	for i := range 20 {
		r := row(i)
		for j := range 8 {
			r.Items = append(r.Items, num(i*j%5))
		}
		w.want(nil, insert(big.Name, r))
	}
	for i := range 4 {
		w.do(by(big.Name, i, num(0), num(0)))
	}
	w.whole()
}

// Those of the spaces that are there already are not made again: it would be seen in their heads.
func TestP17_1_SpacesThatAreThereAlready(t *testing.T) {
	names := []string{"tables", "rows", "index"}
	for set := range 8 {
		w := working(t, 40)
		spaces := space.New(w.s)
		for i, name := range names {
			if set>>i&1 == 1 {
				must(t, spaces.Make(name))
				w.m.hand.made[name] = 1
				must(t, w.s.Put(pack(text(name)), "kept"))
			}
		}
		w.want(api.ErrLost, call{what: "Table", name: "people"})
		w.want(api.ErrArg, define(api.Table{}))
		w.with(people())
		for i, name := range names {
			if v, is, err := w.s.Get(pack(text(name))); (v == "kept") != (set>>i&1 == 1) || !is || err != nil {
				t.Errorf("set %d: the head of %s has %q, %v, %v", set, name, v, is, err)
			}
		}
		w.with(things())
		w.want(nil, insert("people", row(1, text("ann"), num(3))))
		w.wantIDs(by("people", 0), 1)
	}
}

func TestP17_2_InAStoreWithoutTables(t *testing.T) {
	w := working(t, 40)
	for _, c := range []call{{what: "Table", name: "people"}, {what: "Rows", name: "people"}, {what: "Row", name: "people"}, by("people", 0), insert("people", row(1)), update("people", row(1)), remove("people", 1)} {
		w.want(api.ErrLost, c)
	}
	w.commit()
	for _, c := range []call{{what: "Table", name: "people"}, {what: "Rows", name: "people"}, {what: "Row", name: "people"}, by("people", 0)} {
		w.want(api.ErrLost, c)
	}
	w.samePairs("nothing was defined")
}

func TestP17_2_TheDefinitionAsItWas(t *testing.T) {
	w := working(t, 60)
	l := []api.Table{people(), things(), notes(), {Name: "peopl", Fields: people().Fields}, {Name: "people!", Fields: things().Fields, Indexes: [][]int{{3, 2, 1, 0}}}, {Name: "tables", Fields: []api.Field{field("rows", 5), field("index", 2)}}}
	w.with(l...)
	for _, d := range l {
		if a := w.want(nil, call{what: "Table", name: d.Name}); !sameTable(a.table, d) {
			t.Errorf("Table = %v, want %v", a.table, d)
		}
		w.want(api.ErrTwice, define(d))
		w.want(api.ErrTwice, define(api.Table{Name: d.Name, Fields: []api.Field{field("other", 3)}}))
		if a := w.want(nil, call{what: "Table", name: d.Name}); !sameTable(a.table, d) {
			t.Errorf("behind a Define that was refused: Table = %v, want %v", a.table, d)
		}
	}
	w.commit()
	w.close()
	w.open()
	w.whole()
}

func TestP17_3_RecordsOfEveryKind(t *testing.T) {
	w := working(t, 200).with(things())
	id := 0
	for _, is := range items(null(), flag(0), flag(1)) {
		for _, n := range items(null(), num(math.MinInt), num(-1), num(0), num(math.MaxInt)) {
			for _, s := range items(null(), text(""), text("\x00"), text("a\x00\xff"), text("a")) {
				for _, l := range items(null(), listOf(), listOf(null(), flag(1), num(2), text("x"), listOf()), deep(4)) {
					w.want(nil, insert("things", row(id, is, n, s, l)))
					id++
				}
			}
		}
	}
	w.whole()
	for id := range id {
		w.want(nil, call{what: "Row", name: "things", row: row(id)})
	}
}

func TestP17_3_TheNumbersOfRecords(t *testing.T) {
	for _, name := range []string{"people", "notes"} {
		w := working(t, 40).with(people(), notes())
		l := items(text("a"), num(1))
		if name == "notes" {
			l = l[:1]
		}
		for _, id := range []int{0, 1, math.MaxInt, 1 << 40, 255, 256} {
			w.want(api.ErrLost, update(name, row(id, l...)))
			w.want(nil, insert(name, row(id, l...)))
			w.want(api.ErrTwice, insert(name, row(id, l...)))
			w.want(nil, update(name, row(id, l...)))
			w.want(nil, call{what: "Row", name: name, row: row(id)})
		}
		for _, id := range []int{-1, math.MinInt} {
			w.want(api.ErrArg, insert(name, row(id, l...)))
			w.want(api.ErrArg, update(name, row(id, l...)))
			w.want(api.ErrLost, remove(name, id))
			w.want(api.ErrLost, call{what: "Row", name: name, row: row(id)})
		}
		w.wantIDs(call{what: "Rows", name: name}, 0, 1, 255, 256, 1<<40, math.MaxInt)
		for _, id := range []int{math.MaxInt, 0} {
			w.want(nil, remove(name, id))
			w.want(api.ErrLost, remove(name, id))
		}
		w.whole()
	}
}

func TestP17_3_TheLongestRecord(t *testing.T) {
	w := working(t, 60).with(notes())
	for _, c := range []struct {
		text string
		want error
	}{
		{strings.Repeat("x", 697), nil}, {strings.Repeat("x", 698), api.ErrMany},
		{strings.Repeat("\x00", 348), nil}, {strings.Repeat("\x00", 348) + "x", nil}, {strings.Repeat("\x00", 349), api.ErrMany},
		{strings.Repeat("x", 65533), api.ErrMany}, {strings.Repeat("x", 65534), api.ErrMany},
	} {
		w.want(c.want, insert("notes", row(1, text(c.text))))
		if c.want == nil {
			w.want(nil, remove("notes", 1))
		}
		w.want(nil, insert("notes", row(1, null())))
		w.want(c.want, update("notes", row(1, text(c.text))))
		w.do(call{what: "Row", name: "notes", row: row(1)})
		w.whole()
		w.want(nil, remove("notes", 1))
	}
}

// 8 bytes are the space's name, 9 the index's number and 9 the record's; 3 more than its bytes a text has.
func TestP17_3_TheLongestEntry(t *testing.T) {
	for _, name := range []string{"t", strings.Repeat("t", 32)} {
		most := 255 - 8 - (len(name) + 3) - 9 - 9 - 3
		d := api.Table{Name: name, Fields: []api.Field{field("s", api.ItemText), field("n", api.ItemNum)}, Indexes: [][]int{{1}, {0}}}
		w := working(t, 60).with(d)
		for _, c := range []struct {
			bytes int
			want  error
		}{{most - 1, nil}, {most, nil}, {most + 1, api.ErrMany}, {most + 400, api.ErrMany}} {
			w.want(c.want, insert(name, row(0, text(strings.Repeat("x", c.bytes)), num(c.bytes))))
			if c.want == nil {
				w.want(nil, remove(name, 0))
			}
			w.want(nil, insert(name, row(0, text(strings.Repeat("x", most)), null())))
			w.want(c.want, update(name, row(0, text(strings.Repeat("x", c.bytes)), num(c.bytes))))
			w.whole()
			w.want(nil, remove(name, 0))
		}
	}
	w := working(t, 60).with(api.Table{Name: "t", Fields: []api.Field{field("s", api.ItemText)}})
	w.want(nil, insert("t", row(0, text(strings.Repeat("x", 697)))))
	w.whole()
}

func TestP17_4_Update(t *testing.T) {
	w := working(t, 60).with(people(), things())
	w.want(nil, insert("people", row(1, text("ann"), num(30))))
	w.want(nil, insert("people", row(2, text("ann"), num(30))))
	for _, c := range []struct {
		r    api.Row
		want error
	}{
		{row(1, text("ann"), num(30)), nil}, {row(1, text("bob"), num(30)), nil}, {row(1, text("bob"), num(-4)), nil}, {row(1, null(), null()), nil},
		{row(1, text("x")), api.ErrArg}, {row(1, text("x"), num(1), num(2)), api.ErrArg}, {row(1, num(1), text("x")), api.ErrKind}, {row(-1, text("x"), num(1)), api.ErrArg},
		{row(3, text("x"), num(1)), api.ErrLost}, {row(1, text(strings.Repeat("x", 300)), num(1)), api.ErrMany}, {row(1, text(strings.Repeat("x", 800)), num(1)), api.ErrMany},
		{row(1, api.Item{Kind: api.ItemText, Num: 1}, num(1)), api.ErrArg}, {row(1, text(strings.Repeat("x", 65536)), num(1)), api.ErrMany},
		{row(1, text("ann"), num(30)), nil},
	} {
		w.want(c.want, update("people", c.r))
		w.whole()
	}
	w.want(api.ErrLost, update("things", row(1, null(), null(), null(), null())))
	w.commit()
	w.begin()
	w.want(nil, update("people", row(2, text("zoe"), num(1))))
	w.wantIDs(by("people", 0), 2, 1)
	w.rollback()
	w.wantIDs(by("people", 0), 1, 2)
}

func TestP17_5_Remove(t *testing.T) {
	w := working(t, 200).with(people(), things(), notes())
	r := newRand(5)
	for id := range 60 {
		for _, d := range []api.Table{people(), things(), notes()} {
			w.want(nil, insert(d.Name, randomRow(r, d, id)))
		}
	}
	for _, id := range r.Perm(60) {
		for _, name := range []string{"people", "things", "notes"} {
			w.want(nil, remove(name, id))
			w.want(api.ErrLost, remove(name, id))
			w.want(api.ErrLost, call{what: "Row", name: name, row: row(id)})
		}
		w.samePairs(fmt.Sprint("behind Remove of ", id))
	}
	w.whole()
	if got := stored(t, w.s); len(got) != 6 {
		t.Errorf("%d pairs are left, want three heads and three definitions", len(got))
	}
}

// byHand does to a store what the chapter says, in the order that some calls have: put and take away, as is.
func byHand(t *testing.T, d *device.Device, steps []api.Pair, away int) []api.Sector {
	t.Helper()
	c, err := device.Open(d.Size(), d.Durable())
	must(t, err)
	s := kv.New(c)
	must(t, s.Open())
	must(t, s.Begin())
	for i, x := range steps {
		if i < away {
			_, err = s.Delete(x.Key)
		} else {
			err = s.Put(x.Key, x.Value)
		}
		must(t, err)
	}
	must(t, s.Commit())
	return c.Durable()
}

// reordered is steps with those that are taken away and those that are put each turned round.
func reordered(steps []api.Pair, away int) []api.Pair {
	a, b := slices.Clone(steps[:away]), slices.Clone(steps[away:])
	slices.Reverse(a)
	slices.Reverse(b)
	return append(a, b...)
}

// byCall makes a call in a transaction of its own, on a copy of a device.
func byCall(t *testing.T, d *device.Device, c call) []api.Sector {
	t.Helper()
	other, err := device.Open(d.Size(), d.Durable())
	must(t, err)
	s := kv.New(other)
	must(t, s.Open())
	must(t, s.Begin())
	must(t, c.of(table.New(s)).err)
	must(t, s.Commit())
	return other.Durable()
}

// ordered is a call, and the pairs that it takes away and those that it puts, in their order.
type ordered struct {
	call  call
	steps []api.Pair
	away  int
}

// The order in which pairs are put and taken away is seen in the pages that are written: the leaves are small here, and cut or joined by the one or the other.
func TestP17_4_TheOrderOfWhatIsPutAndTakenAway(t *testing.T) {
	t.Parallel()
	d := api.Table{Name: "t", Fields: []api.Field{field("a", api.ItemText), field("b", api.ItemText)}, Indexes: [][]int{{0}, {1}, {1, 0}, {0, 1}}}
	r := newRand(4)
	record := func(id int) api.Row {
		item := func() api.Item {
			return text(strings.Repeat(string(rune('a'+r.Intn(26))), 5+r.Intn(95)))
		}
		return row(id, item(), item())
	}
	differ := map[string]int{}
	for n := range 250 {
		w := working(t, 100).with(d)
		var all []api.Row
		for id := range 12 + n%24 {
			all = append(all, record(id))
			w.want(nil, insert("t", all[id]))
		}
		for range r.Intn(len(all) - 3) {
			gone := r.Intn(len(all))
			w.want(nil, remove("t", all[gone].ID))
			all = slices.Delete(all, gone, gone+1)
		}
		w.commit()
		old, fresh, further := all[r.Intn(len(all))], record(0), record(40)
		fresh.ID = old.ID
		was, is := recordPairs(d, old), recordPairs(d, fresh)
		for _, c := range []ordered{
			{insert("t", further), recordPairs(d, further), 0},
			{update("t", fresh), slices.Concat(was, is), len(was)},
			{update("t", old), slices.Concat(was, was), len(was)},
			{remove("t", old.ID), was, len(was)},
		} {
			want := byHand(t, w.d, c.steps, c.away)
			if !slices.Equal(byCall(t, w.d, c.call), want) {
				t.Fatalf("%d: other bytes are durable behind %s than by hand", n, c.call.what)
			}
			if !slices.Equal(byHand(t, w.d, reordered(c.steps, c.away), c.away), want) {
				differ[c.call.what]++
			}
		}
	}
	for _, what := range []string{"Insert", "Update", "Remove"} {
		if differ[what] == 0 {
			t.Errorf("another order than that of %s would not have been seen", what)
		}
	}
}

// An Update of what stays the same is not nothing: the pairs are taken away and put, so their pages are written.
func TestP17_4_WhatStaysTheSameIsPutAgain(t *testing.T) {
	w := working(t, 40).with(people())
	w.want(nil, insert("people", row(1, text("ann"), num(3))))
	w.commit()
	w.begin()
	w.want(nil, update("people", row(1, text("ann"), num(3))))
	_, before, _ := w.d.Counts()
	w.commit()
	if _, behind, _ := w.d.Counts(); behind-before <= 1 {
		t.Errorf("%d sectors were written, no more than the meta's", behind-before)
	}
	w.whole()
}

// swapped is steps with two neighbours changed for one another.
func swapped(steps []api.Pair, i int) []api.Pair {
	l := slices.Clone(steps)
	l[i], l[i+1] = l[i+1], l[i]
	return l
}

// The spaces are made in their order, ahead of the definition: that too is seen in the pages, where one leaf is just full and is cut by the one or the other.
func TestP17_1_TheOrderOfWhatIsPut(t *testing.T) {
	t.Parallel()
	steps := []api.Pair{{Key: pack(text("tables"))}, {Key: pack(text("rows"))}, {Key: pack(text("index"))}, {Key: definitionKey("things"), Value: definitionText(things())}}
	differ := [3]int{}
	r := newRand(3)
	for n := range 400 {
		w := working(t, 100)
		fill := 3780 + r.Intn(290)
		for size := 0; size < fill; {
			key := fmt.Sprintf("\x04%c%d", 'h'+r.Intn(13), r.Intn(1000))
			if _, is := w.m.hand.others[key]; !is {
				w.put(key, "")
				size += len(key) + 5
			}
		}
		w.commit()
		want := byHand(t, w.d, steps, 0)
		if !slices.Equal(byCall(t, w.d, define(things())), want) {
			t.Fatalf("%d: other bytes are durable than by hand", n)
		}
		for i := range differ {
			if !slices.Equal(byHand(t, w.d, swapped(steps, i), 0), want) {
				differ[i]++
			}
		}
	}
	for i, n := range differ {
		if n == 0 {
			t.Errorf("it would not have been seen, if the steps %d and %d were the other way round", i, i+1)
		}
	}
}

func TestP17_6_RowsOfMany(t *testing.T) {
	for _, n := range []int{0, 1, 2, 999, 1000, 1001, 2345} {
		w := working(t, 900).with(people(), notes())
		for i := range n {
			w.do(insert("people", row(i*7%2346, text(fmt.Sprint(i%5)), num(i%3))))
		}
		w.want(nil, insert("notes", row(1, text("other"))))
		if a := w.want(nil, call{what: "Rows", name: "people"}); len(a.rows) != n {
			t.Errorf("%d rows, want %d", len(a.rows), n)
		}
		if a := w.want(nil, by("people", 0)); len(a.rows) != n {
			t.Errorf("%d rows by the index, want %d", len(a.rows), n)
		}
		w.do(by("people", 0, num(1)))
		w.do(by("people", 0, num(1), text("2")))
		w.do(by("people", 0, num(3)))
		w.commit()
		w.do(call{what: "Rows", name: "people"})
		w.do(by("people", 0, num(2)))
	}
}

// Tables whose names begin one another, or are those of the spaces, know nothing of one another.
func TestP17_6_TablesSideBySide(t *testing.T) {
	names := []string{"a", "aa", "a!", "tables", "rows", "index", "b"}
	w := working(t, 100)
	for i, name := range names {
		d := people()
		d.Name = name
		w.with(d)
		for id := range 3 + i {
			w.want(nil, insert(name, row(id, text(name), num(-id))))
		}
	}
	w.whole()
	for _, name := range names {
		for _, id := range w.want(nil, call{what: "Rows", name: name}).ids() {
			w.want(nil, remove(name, id))
		}
		w.whole()
	}
}

func TestP17_7_ByEveryBeginning(t *testing.T) {
	w := working(t, 300).with(things(), people())
	r := newRand(7)
	for id := range 250 {
		w.want(nil, insert("things", randomRow(r, things(), id*3)))
	}
	most := 0
	for i, index := range things().Indexes {
		for _, x := range w.m.hand.tables["things"].all() {
			var l []api.Item
			for _, n := range index {
				w.want(nil, by("things", i, l...))
				l = append(l, x.Items[n])
			}
			a := w.want(nil, by("things", i, l...))
			if !slices.Contains(a.ids(), x.ID) {
				t.Fatalf("By(%d, %v) has not %d", i, l, x.ID)
			}
			most = max(most, len(a.rows))
		}
	}
	if most < 3 {
		t.Errorf("no more than %d records have the same items", most)
	}
}

// The order is that of tuple.Compare, and then of the numbers: told here without the model.
func TestP17_7_TheOrder(t *testing.T) {
	w := working(t, 300).with(things())
	r := newRand(8)
	for _, id := range r.Perm(300) {
		w.want(nil, insert("things", randomRow(r, things(), id)))
	}
	for i, index := range things().Indexes {
		rows := w.want(nil, by("things", i)).rows
		if len(rows) != 300 {
			t.Fatalf("index %d: %d records", i, len(rows))
		}
		for j := range len(rows) - 1 {
			var a, b []api.Item
			for _, n := range index {
				a, b = append(a, rows[j].Items[n]), append(b, rows[j+1].Items[n])
			}
			c, err := tuple.Compare(a, b)
			if err != nil || c > 0 || c == 0 && rows[j].ID >= rows[j+1].ID {
				t.Fatalf("index %d: %v stands ahead of %v", i, rows[j], rows[j+1])
			}
		}
	}
}

func TestP17_7_ItemsThatAreRefused(t *testing.T) {
	w := working(t, 40).with(people(), things(), notes())
	w.want(nil, insert("people", row(1, text("ann"), num(30))))
	w.want(nil, insert("things", row(1, flag(1), num(1), text("x"), deep(4))))
	long := func(n int) api.Item { return text(strings.Repeat("x", n)) }
	for _, c := range []struct {
		call call
		want error
	}{
		{by("people", 1), api.ErrArg}, {by("people", -1), api.ErrArg}, {by("people", math.MaxInt), api.ErrArg}, {by("people", math.MinInt), api.ErrArg}, {by("notes", 0), api.ErrArg},
		{by("people", 0, num(1), text("a"), num(1)), api.ErrArg}, {by("people", 0, slices.Repeat(items(num(1)), 20)...), api.ErrArg}, {by("things", 0, listOf(), listOf()), api.ErrArg},
		{by("people", 0, text("x"), text("a"), num(1)), api.ErrArg}, {by("people", 7, text("x")), api.ErrArg},
		{by("people", 0, text("x")), api.ErrKind}, {by("people", 0, num(1), num(1)), api.ErrKind}, {by("people", 0, api.Item{}), api.ErrKind}, {by("people", 0, api.Item{Kind: 77}), api.ErrKind},
		{by("people", 0, api.Item{Kind: api.ItemNum, Text: "x"}, num(1)), api.ErrKind}, {by("people", 0, null(), null()), nil},
		{by("people", 0, api.Item{Kind: api.ItemNum, Text: "x"}), api.ErrArg}, {by("people", 0, api.Item{Kind: api.ItemNull, Num: 1}), api.ErrArg},
		{by("things", 2, flag(2)), api.ErrArg}, {by("things", 0, deep(4)), nil}, {by("things", 0, deep(5)), api.ErrMany}, {by("things", 0, listOf(slices.Repeat(items(num(1)), 17)...)), api.ErrMany},
		{by("things", 0, listOf(flag(7))), api.ErrArg}, {by("people", 0, num(30), long(300)), nil},
		{by("things", 1, long(65536-8-9-9-3)), nil}, {by("things", 1, long(65536-8-9-9-3+1)), api.ErrMany}, {by("things", 1, long(65533)), api.ErrMany}, {by("things", 1, long(65534)), api.ErrMany},
	} {
		w.want(c.want, c.call)
	}
	w.whole()
}

// A Tables keeps nothing but the store.
func TestP17_WhatIsDoneToTheStoreIsSeen(t *testing.T) {
	w := working(t, 100).with(people())
	other := table.New(w.s)
	must(t, other.Insert("people", row(1, text("ann"), num(3))))
	w.m.hand.tables["people"].rows[1] = items(text("ann"), num(3))
	w.whole()
	w.want(nil, remove("people", 1))
	if _, err := other.Row("people", 1); err != api.ErrLost {
		t.Errorf("Row of what another one has removed = %v", err)
	}
	must(t, w.s.Rollback())
	if _, err := other.Table("people"); err != api.ErrLost {
		t.Errorf("Table behind a Rollback = %v", err)
	}
	must(t, w.s.Begin())
	d := people()
	d.Fields[1].Kind = api.ItemFlag
	must(t, other.Define(d))
	if got, err := w.r.Table("people"); !sameTable(got, d) || err != nil {
		t.Errorf("Table = %v, %v, want what was defined since", got, err)
	}
}

// Other spaces and pairs of the store neither see nor disturb the tables.
func TestP17_8_OthersInTheStore(t *testing.T) {
	w := working(t, 300).with(people(), things())
	spaces := space.New(w.s)
	must(t, spaces.Make("others"))
	w.m.hand.others[pack(text("others"))] = ""
	r := newRand(9)
	for i := range 60 {
		w.want(nil, insert("people", randomRow(r, people(), i)))
		must(t, spaces.Put("others", items(num(i)), "v"))
		w.m.hand.others[pack(text("others"), num(i))] = "v"
		w.put(fmt.Sprint("raw", i), "v")
		w.put(fmt.Sprintf("\x04index\x00\x00\x00%d", i), "v")
		w.put(fmt.Sprintf("\x04rows\x00\x00\x04people\x00\x00\x06%d", i), "v")
	}
	w.whole()
	w.commit()
	w.whole()
	w.begin()
	for i := range 60 {
		w.want(nil, remove("people", i))
	}
	w.whole()
}

func TestP17_8_BehindRollbacksAndOpenings(t *testing.T) {
	w := working(t, 200).with(people(), things())
	r := newRand(10)
	for i := range 40 {
		w.want(nil, insert("things", randomRow(r, things(), i)))
	}
	w.commit()
	w.whole()
	for range 3 {
		w.begin()
		for i := range 40 {
			switch i % 3 {
			case 0:
				w.want(nil, update("things", randomRow(r, things(), i)))
			case 1:
				w.want(nil, remove("things", i))
			}
			w.want(nil, insert("people", randomRow(r, people(), i)))
		}
		w.with(notes())
		w.whole()
		w.rollback()
		w.whole()
		w.begin()
		w.want(nil, remove("things", 5))
		w.close()
		w.open()
		w.whole()
	}
	w.begin()
	w.want(nil, remove("things", 5))
	w.commit()
	w.d.Crash(nil)
	w.again()
	w.whole()
	w.want(api.ErrLost, call{what: "Row", name: "things", row: row(5)})
}
