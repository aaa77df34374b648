package space_test

import (
	"fmt"
	"slices"
	"strings"
	"testing"

	"copse/api"
	"copse/device"
	"copse/kv"
	"copse/space"
	"copse/tuple"
)

func TestP16_ExamplesOfTheChapter(t *testing.T) {
	w := working(t, 40)
	put := func(name string, key []api.Item, value string) call {
		return call{what: "Put", name: name, key: key, value: value}
	}
	scan := func(name string, prefix []api.Item, limit int) call {
		return call{what: "Scan", name: name, key: prefix, limit: limit}
	}
	w.want(nil, call{what: "Make", name: "a"})
	w.want(api.ErrTwice, call{what: "Make", name: "a"})
	for _, name := range []string{"", "a b", strings.Repeat("n", 33)} {
		w.want(api.ErrArg, call{what: "Make", name: name})
	}
	w.want(api.ErrLost, put("b", items(num(1)), "v"))
	w.want(api.ErrShort, put("a", nil, "v"))
	w.want(api.ErrMany, put("a", ones(16), "v"))
	first, second, third := items(text("x"), num(-1)), items(text("x"), num(2)), items(text("xy"))
	w.want(nil, put("a", second, "v"))
	w.want(nil, put("a", first, "w"))
	w.want(nil, put("a", third, "u"))
	wantAnswer := func(c call, want answer) {
		t.Helper()
		if a := w.do(c); !a.equals(want) {
			t.Errorf("%v = %v, want %v", c, a, want)
		}
	}
	wantAnswer(call{what: "Get", name: "a", key: second}, answer{value: "v", is: true})
	wantAnswer(call{what: "Get", name: "a", key: items(text("x"))}, answer{})
	wantAnswer(scan("a", items(text("x")), 9), answer{keys: [][]api.Item{first, second}, values: []string{"w", "v"}})
	wantAnswer(scan("a", nil, 1), answer{keys: [][]api.Item{first}, values: []string{"w"}})
	wantAnswer(scan("a", nil, 0), answer{})
	wantAnswer(scan("a", nil, -1), refused(api.ErrArg))
	w.made("ab")
	wantAnswer(call{what: "Names"}, answer{names: []string{"a", "ab"}})
	wantAnswer(call{what: "Delete", name: "a", key: third}, answer{is: true})
	wantAnswer(call{what: "Delete", name: "a", key: third}, answer{})
	wantAnswer(call{what: "Drop", name: "a"}, answer{})
	wantAnswer(call{what: "Names"}, answer{names: []string{"ab"}})
	wantAnswer(scan("a", nil, 9), refused(api.ErrLost))
	w.made("a")
	wantAnswer(scan("a", nil, 9), answer{})
	w.commit()
	wantAnswer(put("a", items(num(1)), "v"), refused(api.ErrStatus))
	w.close()
	wantAnswer(call{what: "Names"}, refused(api.ErrStatus))
	w.open()
	w.begin()
	w.put("zzz", "1")
	wantAnswer(call{what: "Names"}, answer{names: []string{"a", "ab"}})
	wantAnswer(scan("a", nil, 9), answer{})
}

func TestP16_3_MakePutsTheHeadWithNoValue(t *testing.T) {
	w := working(t, 40)
	for _, name := range []string{"a", "!", "~", strings.Repeat("~", 32), "a.b-c"} {
		w.want(nil, call{what: "Make", name: name})
		if v, is, err := w.s.Get("\x04" + name + "\x00\x00"); v != "" || !is || err != nil {
			t.Errorf("behind Make(%q) the head has %q, %v, %v", name, v, is, err)
		}
		w.want(api.ErrTwice, call{what: "Make", name: name})
	}
	w.whole()
}

// Whoever has put the head has made the space, whatever its value is.
func TestP16_3_ASpaceIsMadeByItsHeadAlone(t *testing.T) {
	w := working(t, 40)
	w.put(head("a"), "something")
	w.want(api.ErrTwice, call{what: "Make", name: "a"})
	if v, _, _ := w.s.Get(head("a")); v != "something" {
		t.Errorf("the head's value is %q: Make has put it again", v)
	}
	w.want(nil, call{what: "Put", name: "a", key: items(num(1)), value: "v"})
	w.del(head("a"))
	for _, what := range []string{"Put", "Get", "Delete", "Scan", "Drop"} {
		w.want(api.ErrLost, call{what: what, name: "a", key: items(num(1)), limit: 1})
	}
	w.made("a")
	if a := w.do(call{what: "Scan", name: "a", limit: 9}); len(a.keys) != 1 {
		t.Errorf("%v: the pair that was left is of the space that has its head again", a)
	}
	w.whole()
}

func TestP16_4_DropTakesAllThatBeginsWithTheHead(t *testing.T) {
	for _, n := range []int{0, 1, 998, 999, 1000, 1001, 2345} {
		w := working(t, 900).made("a", "ab", "b")
		for i := range n {
			w.do(call{what: "Put", name: "a", key: items(num(i * 7 % 2346)), value: "v"})
		}
		w.want(nil, call{what: "Put", name: "ab", key: items(num(1)), value: "v"})
		w.want(nil, call{what: "Put", name: "b", key: items(num(1)), value: "v"})
		foreign := []string{head("a") + "\x00", head("a") + "junk", head("a") + "\xff\xff", at("a", num(3)) + "\x04a", at("a", ones(15)...) + "\x01"}
		for _, key := range foreign {
			w.put(key, "x")
		}
		near := []string{"\x04a\x00", "\x04a", "\x04a\x00\x01", "\x04a\x00\xff\x00\x00", "\x03", "\x05", "a"}
		for _, key := range near {
			w.put(key, "x")
		}
		w.want(nil, call{what: "Drop", name: "a"})
		if l, err := w.s.Scan(head("a"), "\x04a\x00\x01", 1); len(l) != 0 || err != nil {
			t.Errorf("%d pairs: %q is left, %v", n, l, err)
		}
		for _, key := range near {
			if _, is, err := w.s.Get(key); !is || err != nil {
				t.Errorf("%q is gone: it does not begin with the head", key)
			}
		}
		w.want(api.ErrLost, call{what: "Drop", name: "a"})
		w.whole()
	}
}

// In which order pairs are taken away is seen in the pages that are written.
func TestP16_4_DropGoesByKeysRising(t *testing.T) {
	w := working(t, 400).made("a", "b", "c")
	for i := range 60 {
		for _, name := range []string{"a", "b", "c"} {
			w.do(call{what: "Put", name: name, key: items(num(i)), value: strings.Repeat("v", 100+i*37%600)})
		}
	}
	w.commit()
	other, err := device.Open(w.d.Size(), w.d.Durable())
	must(t, err)
	byHand := kv.New(other)
	must(t, byHand.Open())
	must(t, byHand.Begin())
	for _, key := range w.m.counts.under(head("b")) {
		_, err := byHand.Delete(key)
		must(t, err)
	}
	must(t, byHand.Commit())
	w.begin()
	w.want(nil, call{what: "Drop", name: "b"})
	w.commit()
	if !slices.Equal(w.d.Durable(), other.Durable()) {
		t.Error("other bytes are durable than behind deletes by hand, rising")
	}
	w.whole()
}

func TestP16_5_Names(t *testing.T) {
	w := working(t, 900)
	if l, err := w.p.Names(); len(l) != 0 || err != nil {
		t.Errorf("Names of an empty store = %q, %v", l, err)
	}
	var want []string
	for i := range 1234 {
		name := fmt.Sprintf("%c-%d", '!'+i%94, i)
		want = append(want, name)
		w.made(name)
	}
	slices.Sort(want)
	for i := range 1300 {
		w.do(call{what: "Put", name: want[700], key: items(num(i))})
	}
	for _, key := range []string{"a", "\x04", "\x04a", "\x04a\x00", "\x04a\x00\x01", "\x04\x00\x00", "\x04a b\x00\x00", "\x04a\x00\xff\x00\x00", "\x04\x7f\x00\x00",
		"\x04" + strings.Repeat("n", 33) + "\x00\x00", at("nomade", num(1)), at("a-1x"), "\x05", "\x05\x04a\x00\x00\x00", "\x01\x04a\x00\x00", "\xff\xff"} {
		w.put(key, "x")
	}
	want = append(want, "a-1x")
	slices.Sort(want)
	if l := w.do(call{what: "Names"}).names; !slices.Equal(l, want) {
		t.Errorf("Names are %d, want %d", len(l), len(want))
	}
	w.commit()
	if l := w.do(call{what: "Names"}).names; !slices.Equal(l, want) {
		t.Errorf("behind a Commit Names are %d, want %d", len(l), len(want))
	}
}

// A head may stand right behind a key that is none, wherever the store is asked for further pairs.
func TestP16_5_KeysThatBeginOneAnother(t *testing.T) {
	for n := range 13 {
		w := working(t, 100).made("b")
		for i := range n {
			w.put("\x04a"+strings.Repeat("\x01", i), "x")
		}
		w.put("\x04b", "x")
		w.put("\x04b\x00", "x")
		if l := w.do(call{what: "Names"}).names; !slices.Contains(l, "b") {
			t.Errorf("behind %d others: %q", n, l)
		}
		w.want(nil, call{what: "Drop", name: "b"})
		w.whole()
	}
}

func TestP16_6_PutGetDelete(t *testing.T) {
	w := working(t, 100).made("a", "b")
	keys := [][]api.Item{items(null()), items(flag(0)), items(flag(1)), items(num(-1 << 63)), items(num(0)), items(text("")), items(text("\x00")), items(text("a\x00\xffb")),
		items(listOf()), items(listOf(null(), listOf(num(1)))), items(deep(4)), ones(15), filled(255), items(null(), null())}
	for i, k := range keys {
		w.do(call{what: "Get", name: "a", key: k})
		w.want(nil, call{what: "Put", name: "a", key: k, value: strings.Repeat("v", i*50)})
		if v, is, err := w.s.Get(at("a", k...)); v != strings.Repeat("v", i*50) || !is || err != nil {
			t.Errorf("the store has %.9q, %v, %v at the key in the store of %v", v, is, err, k)
		}
	}
	for i, k := range keys {
		if a := w.do(call{what: "Get", name: "a", key: k}); a.value != strings.Repeat("v", i*50) || !a.is {
			t.Errorf("Get(%v) = %v", k, a)
		}
		w.do(call{what: "Get", name: "b", key: k})
	}
	for i, k := range keys {
		w.want(nil, call{what: "Put", name: "a", key: k, value: fmt.Sprint("new", i)})
		if a := w.do(call{what: "Get", name: "a", key: k}); a.value != fmt.Sprint("new", i) || !a.is {
			t.Errorf("put over: Get(%v) = %v", k, a)
		}
	}
	w.whole()
	for _, k := range keys {
		if a := w.do(call{what: "Delete", name: "b", key: k}); a.is {
			t.Errorf("Delete(%v) of another space's key = %v", k, a)
		}
		if a := w.do(call{what: "Delete", name: "a", key: k}); !a.is {
			t.Errorf("Delete(%v) = %v", k, a)
		}
		if a := w.do(call{what: "Delete", name: "a", key: k}); a.is {
			t.Errorf("Delete(%v) again = %v", k, a)
		}
		w.do(call{what: "Get", name: "a", key: k})
	}
	w.whole()
}

func TestP16_7_ScanWithPrefixes(t *testing.T) {
	w := working(t, 100).made("a", "b")
	var all [][]api.Item
	for _, first := range items(null(), flag(0), flag(1), num(-5), num(0), num(5), text(""), text("x"), text("x\x00"), text("xy"), listOf(), listOf(num(1)), listOf(num(1), num(2)), deep(4)) {
		all = append(all, items(first), items(first, null()), items(first, num(1), text("y")), items(first, listOf()))
	}
	slices.Reverse(all)
	for i, k := range all {
		w.do(call{what: "Put", name: "a", key: k, value: fmt.Sprint(i)})
		w.do(call{what: "Put", name: "b", key: k[:1], value: "other"})
	}
	for _, k := range all {
		for n := range len(k) + 1 {
			for _, limit := range []int{0, 1, 2, 3, 4, 5, 55, 56, 57, 1000, 1001, 1<<63 - 1} {
				a := w.want(nil, call{what: "Scan", name: "a", key: k[:n], limit: limit})
				if len(a.keys) != min(limit, followers(all, k[:n])) {
					t.Fatalf("Scan(%v, %d) has %d keys", k[:n], limit, len(a.keys))
				}
			}
		}
	}
	long := items(text(strings.Repeat("k", 60000)))
	for _, prefix := range [][]api.Item{long, filled(255), filled(256), ones(15), items(listOf(num(1), num(2), num(3))), items(text("xyz"))} {
		if a := w.want(nil, call{what: "Scan", name: "a", key: prefix, limit: 9}); len(a.keys) != 0 || len(a.values) != 0 {
			t.Errorf("Scan with a prefix that no key has: %v", a)
		}
	}
}

// followers is how many of these keys begin with a prefix.
func followers(all [][]api.Item, prefix []api.Item) int {
	n := 0
	for _, k := range all {
		if len(k) >= len(prefix) && sameItems(k[:len(prefix)], prefix) {
			n++
		}
	}
	return n
}

func TestP16_7_ScanHasNoOtherBound(t *testing.T) {
	w := working(t, 900).made("a", "b")
	w.do(call{what: "Put", name: "b", key: items(num(1))})
	for i := range 3100 {
		w.do(call{what: "Put", name: "a", key: items(text(fmt.Sprint(i%2)), num(i*7%3100-1000)), value: fmt.Sprint(i)})
	}
	for _, limit := range []int{0, 1, 2, 998, 999, 1000, 1001, 1002, 1999, 2000, 2001, 3099, 3100, 3101, 1<<63 - 1} {
		for _, prefix := range [][]api.Item{nil, items(text("0")), items(text("1")), items(text("1"), num(3))} {
			w.want(nil, call{what: "Scan", name: "a", key: prefix, limit: limit})
		}
	}
	if a := w.do(call{what: "Scan", name: "a", limit: 4000}); len(a.keys) != 3100 {
		t.Errorf("%d keys", len(a.keys))
	}
}

// Keys that somebody else has put between those of a space belong to none, and don't count towards the limit.
func TestP16_7_ForeignKeysAreNotAnswered(t *testing.T) {
	w := working(t, 900).made("a")
	for i := range 40 {
		w.do(call{what: "Put", name: "a", key: items(num(i)), value: fmt.Sprint(i)})
		for j := range 70 {
			w.put(fmt.Sprintf("%s\x06%c", at("a", num(i)), j), "x")
		}
	}
	w.put(head("a")+"\x00", "x")
	w.put(at("a", num(7))+"\x04x", "x")
	w.put(at("a", ones(15)...)+"\x01", "16 items behind the name")
	w.put(head("a")+"\x05\x05\x05\x05\x05\x00\x00\x00\x00\x00", "five lists in one another")
	w.put(head("a")+"\x02\x02", "a flag that is neither")
	w.put(at("a", num(99)), "a key of the space, whoever has put it")
	for _, limit := range []int{1, 2, 3, 39, 40, 41, 42, 1 << 62} {
		for _, prefix := range [][]api.Item{nil, items(num(7)), items(num(39))} {
			w.want(nil, call{what: "Scan", name: "a", key: prefix, limit: limit})
		}
	}
	if a := w.do(call{what: "Scan", name: "a", limit: 100}); len(a.keys) != 41 {
		t.Errorf("%d keys", len(a.keys))
	}
	w.whole()
}

func TestP16_8_NamesThatBeginOneAnother(t *testing.T) {
	names := []string{"a", "aa", "a!", "aaa", "a~", "b", "!"}
	w := working(t, 100).made(names...)
	keys := [][]api.Item{items(text("a")), items(text("")), items(num(1)), items(null(), text("a")), items(listOf(text("a")))}
	for i, name := range names {
		for j, k := range keys {
			w.want(nil, call{what: "Put", name: name, key: k, value: fmt.Sprint(i, j)})
		}
	}
	for len(names) > 0 {
		for i, name := range names {
			a := w.want(nil, call{what: "Scan", name: name, limit: 99})
			if len(a.keys) != len(keys) {
				t.Fatalf("%q has %d keys", name, len(a.keys))
			}
			w.do(call{what: "Get", name: name, key: keys[i%len(keys)]})
		}
		w.want(nil, call{what: "Delete", name: names[len(names)-1], key: keys[0]})
		w.want(nil, call{what: "Put", name: names[len(names)-1], key: keys[0], value: "again"})
		w.want(nil, call{what: "Drop", name: names[0]})
		w.whole()
		names = names[1:]
	}
}

func TestP16_8_KeysStandInTheOrderOfTheirItems(t *testing.T) {
	w := working(t, 300).made("a")
	r := newRand(11)
	for range 400 {
		w.do(call{what: "Put", name: "a", key: randomKey(r)})
	}
	keys := w.do(call{what: "Scan", name: "a", limit: 1000}).keys
	for i := range len(keys) - 1 {
		if c, err := tuple.Compare(keys[i], keys[i+1]); c != -1 || err != nil {
			t.Fatalf("%v stands ahead of %v: %d, %v", keys[i], keys[i+1], c, err)
		}
	}
	if len(keys) < 200 {
		t.Errorf("only %d keys", len(keys))
	}
}

func TestP16_8_DroppedAndMadeAgain(t *testing.T) {
	w := working(t, 300).made("a")
	for round := range 3 {
		for i := range 1100 {
			w.do(call{what: "Put", name: "a", key: items(num(i), num(round))})
		}
		if round == 1 {
			w.commit()
			w.begin()
		}
		w.want(nil, call{what: "Drop", name: "a"})
		w.made("a")
		if a := w.do(call{what: "Scan", name: "a", limit: 9}); len(a.keys) != 0 {
			t.Errorf("%d keys in a space that was made again", len(a.keys))
		}
		w.whole()
	}
}

func TestP16_8_CommitAndRollback(t *testing.T) {
	w := working(t, 100).made("a", "b")
	put := func(name string, n int) {
		w.want(nil, call{what: "Put", name: name, key: items(num(n)), value: "v"})
	}
	put("a", 1)
	put("b", 2)
	w.commit()
	w.whole()
	w.begin()
	w.want(nil, call{what: "Drop", name: "a"})
	w.made("c")
	put("c", 3)
	w.want(nil, call{what: "Delete", name: "b", key: items(num(2))})
	w.whole()
	w.rollback()
	w.whole()
	w.begin()
	put("b", 9)
	w.close()
	w.open()
	w.whole()
	w.begin()
	w.want(nil, call{what: "Drop", name: "b"})
	w.commit()
	w.close()
	w.again()
	w.whole()
	if l := w.do(call{what: "Names"}).names; !slices.Equal(l, []string{"a"}) {
		t.Errorf("Names = %q", l)
	}
}

// A Spaces keeps nothing but the store.
func TestP16_WhatIsDoneToTheStoreIsSeen(t *testing.T) {
	w := working(t, 100).made("a")
	other := space.New(w.s)
	must(t, other.Make("b"))
	must(t, other.Put("a", items(num(1)), "v"))
	w.m.hand[head("b")], w.m.hand[at("a", num(1))] = "", "v"
	w.whole()
	w.del(at("a", num(1)))
	w.whole()
	if _, is, err := other.Get("a", items(num(1))); is || err != nil {
		t.Errorf("a key that the store has no more: %v, %v", is, err)
	}
}
