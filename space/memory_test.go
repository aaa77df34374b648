package space_test

import (
	"slices"
	"testing"
	"unsafe"

	"copse/api"
)

// loose is a text whose memory can be written over.
func loose(s string) (string, []byte) {
	p := []byte(s)
	return unsafe.String(&p[0], len(p)), p
}

// roomy is a list with something in the room behind its end.
func roomy(l []api.Item) []api.Item {
	wide := append(slices.Clone(l), text("behind"), num(7))
	for i := range wide {
		if wide[i].Kind == api.ItemList {
			wide[i].List = roomy(wide[i].List)
		}
	}
	return wide[:len(l)]
}

// copyOf is a list with all that is in its room, in memory of its own.
func copyOf(l []api.Item) []api.Item {
	c := slices.Clone(l[:cap(l)])
	for i := range c {
		if c[i].List != nil {
			c[i].List = copyOf(c[i].List)
		}
	}
	return c
}

// scrawl writes over a list, the room behind it and the lists in it.
func scrawl(l []api.Item) {
	wide := l[:cap(l)]
	for i := range wide {
		scrawl(wide[i].List)
		wide[i] = api.Item{Kind: 77, Num: -77, Text: "scrawl"}
	}
}

func sampleKeys() [][]api.Item {
	return [][]api.Item{items(num(1)), items(text("x"), listOf(num(1), listOf(text("y")))), items(listOf(), listOf(null())), items(text("x"), num(2), null()), ones(15)}
}

func TestP16_9_ListsHandedInAreNeitherChangedNorKept(t *testing.T) {
	w := working(t, 100).made("a")
	for _, what := range []string{"Put", "Get", "Scan", "Delete", "Put"} {
		for _, k := range sampleKeys() {
			l := roomy(k)
			before := copyOf(l)
			c := call{what: what, name: "a", key: l, value: "v", limit: 9}
			w.want(nil, c)
			if !sameItems(copyOf(l), before) {
				t.Fatalf("%v has changed its list or what lies behind it", c)
			}
			scrawl(l)
			w.whole()
		}
	}
}

func TestP16_9_TextsHandedInAreNotKept(t *testing.T) {
	w := working(t, 100)
	name, nameBytes := loose("space")
	must(t, w.p.Make(name))
	copy(nameBytes, "other")
	w.m.hand[head("space")] = ""
	w.whole()
	name, nameBytes = loose("space")
	value, valueBytes := loose("value")
	word, wordBytes := loose("word")
	must(t, w.p.Put(name, items(text(word), listOf(text(word))), value))
	copy(nameBytes, "other")
	copy(valueBytes, "other")
	copy(wordBytes, "othe")
	w.m.hand[at("space", text("word"), listOf(text("word")))] = "value"
	w.whole()
	name, nameBytes = loose("space")
	must(t, w.p.Drop(name))
	copy(nameBytes, "other")
	w.m.hand = book{}
	w.whole()
}

func TestP16_9_AnswersAreNewMemory(t *testing.T) {
	w := working(t, 100).made("a", "b", "c")
	for _, k := range sampleKeys() {
		w.do(call{what: "Put", name: "a", key: k, value: "v"})
	}
	first := w.do(call{what: "Scan", name: "a", limit: 99})
	second := w.do(call{what: "Scan", name: "a", limit: 99})
	for i := range first.keys {
		for j := range first.keys {
			if i != j {
				before := copyOf(first.keys[j])
				_ = append(first.keys[i], text("appended"))
				if !sameItems(copyOf(first.keys[j]), before) {
					t.Fatalf("key %d and key %d share room", i, j)
				}
			}
		}
	}
	for i := range first.keys {
		rest := append(slices.Clone(first.keys[:i]), first.keys[i+1:]...)
		var before [][]api.Item
		for _, k := range rest {
			before = append(before, copyOf(k))
		}
		kept := copyOf(first.keys[i])
		scrawl(first.keys[i])
		for j, k := range rest {
			if !sameItems(copyOf(k), before[j]) {
				t.Fatalf("key %d and another one share memory", i)
			}
		}
		copy(first.keys[i][:cap(first.keys[i])], kept)
	}
	for _, k := range first.keys {
		scrawl(k)
	}
	for i := range first.values[:cap(first.values)] {
		first.values[:cap(first.values)][i] = "scrawl"
	}
	names := w.do(call{what: "Names"}).names
	for i := range names[:cap(names)] {
		names[:cap(names)][i] = "scrawl"
	}
	w.whole()
	if !second.equals(w.do(call{what: "Scan", name: "a", limit: 99})) {
		t.Error("an answer that was kept has changed")
	}
}

// The lists in one key's items share no memory either: neither with their like nor by spare room.
func TestP16_9_ListsInItems(t *testing.T) {
	w := working(t, 100).made("a")
	w.do(call{what: "Put", name: "a", key: items(listOf(num(1), num(2)), listOf(num(1), num(2)), listOf(listOf(num(1)), listOf(num(1))))})
	key := w.do(call{what: "Scan", name: "a", limit: 1}).keys[0]
	_ = append(key[0].List, text("appended"))
	_ = append(key[2].List[0].List, text("appended"))
	key[0].List[0] = text("scrawl")
	key[2].List[0].List[0] = text("scrawl")
	if want := listOf(num(1), num(2)); !sameItem(key[1], want) {
		t.Errorf("the second list is %v", key[1])
	}
	if want := listOf(num(1)); !sameItem(key[2].List[1], want) {
		t.Errorf("the inner list is %v", key[2].List[1])
	}
	w.whole()
}
