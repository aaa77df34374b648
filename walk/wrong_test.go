package walk_test

import (
	"slices"
	"strings"
	"testing"

	"copse/api"
	"copse/cells"
	"copse/device"
	"copse/walk"
)

// rawBranch is a page of kind branch with any children and keys, those that branch.Encode refuses, too.
func rawBranch(t *testing.T, id int, txid uint64, kids []int, keys ...string) api.Sheet {
	t.Helper()
	number := func(n int) string { return string([]byte{byte(n >> 24), byte(n >> 16), byte(n >> 8), byte(n)}) }
	l := []string{number(kids[0])}
	for i, k := range keys {
		l = append(l, string([]byte{byte(len(k))})+k+number(kids[i+1]))
	}
	body, err := cells.Lay(l)
	if err != nil {
		t.Fatal(err)
	}
	return api.Sheet{Kind: api.KindBranch, ID: id, Txid: txid, Count: len(l), Body: body}
}

// rawLeaf is a page of kind leaf with any pairs.
func rawLeaf(t *testing.T, id int, txid uint64, l []api.Pair) api.Sheet {
	t.Helper()
	var texts []string
	for _, p := range l {
		texts = append(texts, string([]byte{byte(len(p.Key)), byte(len(p.Value) >> 8), byte(len(p.Value))})+p.Key+p.Value)
	}
	body, err := cells.Lay(texts)
	if err != nil {
		t.Fatal(err)
	}
	return api.Sheet{Kind: api.KindLeaf, ID: id, Txid: txid, Count: len(l), Body: body}
}

// places of the wood: the first, a middle and the last leaf of both branches, the branches, the root.
func places() []int { return []int{2, 5, 10, 11, 14, 19, 20, 21, 22} }

// Condition 1: the number of a page.
func TestP11_1_NumbersOutOfThePages(t *testing.T) {
	for _, id := range []int{23, 24, 25} {
		for _, i := range []int{0, 3, 7} {
			w := newWood()
			w.inner[1].Links[i].Child = id
			d := w.lay(t)
			wantCorrupt(t, "nothing in that page", d)
			wantFine(t, "the leaf in that page", d.leaf(id, 9, w.leaves[10+i]))
		}
	}
	for _, id := range []int{26, 27, 1000, api.MaxPages - 1} {
		for _, i := range []int{0, 3, 7} {
			w := newWood()
			w.inner[1].Links[i].Child = id
			wantCorrupt(t, "above the pages", w.lay(t))
		}
		w := newWood()
		w.inner[0].First = id
		wantCorrupt(t, "the first child above the pages", w.lay(t))
		w = newWood()
		w.top.Links[0].Child = id
		wantCorrupt(t, "the root's child above the pages", w.lay(t))
	}
	for _, id := range []int{0, 1, api.MaxPages, 1<<32 - 1} {
		d := twoLeaves(t)
		wantCorrupt(t, "a first child that is no page", d.page(7, rawBranch(t, 7, 6, []int{id, 3}, "k")))
		wantCorrupt(t, "a second child that is no page", d.page(7, rawBranch(t, 7, 6, []int{5, id}, "k")))
	}
}

func TestP11_1_RootOutOfThePages(t *testing.T) {
	// A device that has lost its last page: its meta is no meta there, whatever the tree.
	d := newWood().lay(t)
	if err := d.Sync(); err != nil {
		t.Fatal(err)
	}
	for _, pages := range []int{25, 27} {
		e, err := device.Open(8*pages, d.Durable())
		if err != nil {
			t.Fatal(err)
		}
		wantError(t, "a device of other pages", e, api.ErrCorrupt)
	}
	e, err := device.Open(8*26+7, d.Durable())
	if err != nil {
		t.Fatal(err)
	}
	if !wantAsJudged(t, "sectors behind the last page", e) {
		t.Error("sectors behind the last page count")
	}
}

// Condition 1: no page is met twice.
func TestP11_1_PagesMetTwice(t *testing.T) {
	w := newWood()
	d := w.lay(t)
	kids, keys := []int{11}, []string{}
	for _, l := range w.inner[1].Links {
		kids, keys = append(kids, l.Child), append(keys, l.Key)
	}
	kids[5] = kids[4]
	wantCorrupt(t, "a leaf twice under one branch", d.page(21, rawBranch(t, 21, 2, kids, keys...)))
	for _, id := range []int{2, 10, 5, 20, 21, 22} {
		w := newWood()
		w.inner[1].Links[2].Child = id
		wantCorrupt(t, "a page of the tree in another's place", w.lay(t))
	}
	for _, id := range []int{5, 22} {
		w = newWood()
		w.top.First = id
		wantCorrupt(t, "a leaf beside a branch, or the root itself", w.lay(t))
	}
	wantCorrupt(t, "the root under itself", twoLeaves(t).branch(7, 6, api.Branch{First: 7, Links: []api.Link{{Key: "k", Child: 3}}}))
}

// Condition 2: sheet.Read takes the page, as that of its number.
func TestP11_1_PagesThatAreNone(t *testing.T) {
	for _, id := range places() {
		for _, bit := range []int{0, 9, 17, 40, 100, 150, 170, 200, 8 * 300, 8*4096 - 1} {
			d := newWood().lay(t)
			p, err := d.Read(8*id, 8)
			if err != nil {
				t.Fatal(err)
			}
			p[bit/8] ^= 128 >> (bit % 8)
			wantCorrupt(t, "a bit is turned", d.write(8*id, p))
		}
		d := newWood().lay(t)
		wantCorrupt(t, "the page is gone", d.write(8*id, make([]byte, 4096)))
		d = newWood().lay(t)
		wantCorrupt(t, "a sector of the page is gone", d.write(8*id, make([]byte, 512)))
	}
}

func TestP11_1_AnothersPage(t *testing.T) {
	w := newWood()
	for _, s := range w.sheets(t) {
		at := s.ID
		s.ID = 24
		d := w.lay(t)
		wantCorrupt(t, "a page that says another number", d.page(at, s))
	}
}

// Condition 3: the transaction.
func TestP11_1_Txids(t *testing.T) {
	for _, id := range places() {
		for txid, right := range map[uint64]bool{0: false, 1: true, 8: true, 9: true, 10: false, 1 << 63: false, 1<<64 - 1: false} {
			w := newWood()
			w.txids[id] = txid
			if right {
				wantFine(t, "a transaction up to the meta's", w.lay(t))
			} else {
				wantCorrupt(t, "a transaction out of its place", w.lay(t))
			}
		}
	}
	w := newWood()
	w.meta.Txid = 1<<64 - 1
	w.txids[5] = 1<<64 - 1
	wantFine(t, "the last transaction", w.lay(t))
	w.meta.Txid = 0
	wantCorrupt(t, "a meta of transaction 0 with a tree", w.lay(t))
}

// Condition 4: the bodies.
func TestP11_1_BodiesThatAreNone(t *testing.T) {
	w := newWood()
	for _, s := range w.sheets(t) {
		change := func(what string, f func(s *api.Sheet)) {
			c := s
			f(&c)
			wantCorrupt(t, what, w.lay(t).page(c.ID, c))
		}
		change("one too many", func(s *api.Sheet) { s.Count++ })
		change("one too few", func(s *api.Sheet) { s.Count-- })
		change("none", func(s *api.Sheet) { s.Count = 0 })
		change("the other kind", func(s *api.Sheet) { s.Kind = api.KindBranch + api.KindLeaf - s.Kind })
		change("zeros", func(s *api.Sheet) { s.Body = strings.Repeat("\x00", api.BodyBytes) })
		change("a byte behind the cells", func(s *api.Sheet) { s.Body = s.Body[:api.BodyBytes-1] + "\x01" })
		change("the cells begin elsewhere", func(s *api.Sheet) { s.Body = "\xff" + s.Body[1:] })
	}
}

func TestP11_1_NodesThatMayNotBe(t *testing.T) {
	w := newWood()
	l := w.leaves[3]
	for what, bad := range map[string][]api.Pair{
		"pairs that do not rise":        {l[1], l[0], l[2]},
		"a pair twice":                  {l[0], l[1], l[1]},
		"a value of 701 bytes":          {l[0], l[1], {Key: l[2].Key, Value: strings.Repeat("v", 701)}},
		"no pairs":                      nil,
		"an empty key ahead of it all":  append([]api.Pair{{Key: "", Value: ""}}, l...),
		"pairs that fall at their ends": {l[2], l[1], l[0]},
	} {
		wantCorrupt(t, what, w.lay(t).page(5, rawLeaf(t, 5, 1, bad)))
		wantCorrupt(t, what+", in the root", newDisk(t, 6).meta(5, 1).page(5, rawLeaf(t, 5, 1, bad)))
	}
	d := twoLeaves(t)
	wantCorrupt(t, "a root without links", d.page(7, rawBranch(t, 7, 6, []int{5})))
	d = twoLeaves(t).leaf(4, 6, pairsOf("p", "q", "r"))
	wantCorrupt(t, "links that do not rise", d.page(7, rawBranch(t, 7, 6, []int{5, 4, 3}, "p", "k")))
	wantCorrupt(t, "links of one key", d.page(7, rawBranch(t, 7, 6, []int{5, 3, 4}, "k", "k")))
	wantCorrupt(t, "an empty link", d.page(7, rawBranch(t, 7, 6, []int{5, 3}, "")))
	wantFine(t, "links that rise", d.page(7, rawBranch(t, 7, 6, []int{5, 3, 4}, "k", "p")))
}

// Condition 5: how full a node is.
func TestP11_1_TooSmall(t *testing.T) {
	for i := range 18 {
		w := newWood()
		w.leaves[i] = w.leaves[i][:2]
		wantCorrupt(t, "a leaf of two pairs", w.lay(t))
		w.meta.Root = 2 + i
		wantFine(t, "as the root", w.lay(t))
	}
	for i := range 2 {
		w := newWood()
		w.inner[i].Links = w.inner[i].Links[:6]
		wantCorrupt(t, "a branch of six links", w.lay(t))
		w.meta.Root = 20 + i
		wantFine(t, "as the root", w.lay(t))
	}
}

// Condition 6: the depths of the leaves.
func TestP11_1_UnlikeDepths(t *testing.T) {
	w := newWood()
	w.top.First = 5
	wantCorrupt(t, "a leaf beside a branch", w.lay(t))
	w = newWood()
	w.top.Links[0].Child = 14
	wantCorrupt(t, "a leaf behind a branch", w.lay(t))
	w = newWood()
	w.top.Links = append(w.top.Links, api.Link{Key: "y", Child: 23})
	d := w.lay(t).leaf(23, 9, pairsOf("y1", "y2", "y3"))
	wantCorrupt(t, "a leaf behind two branches", d)
	for _, i := range []int{0, 4, 8, 9, 13, 17} {
		wantCorrupt(t, "a branch among leaves", branchAmongLeaves(t, i))
		wantFine(t, "that branch alone", branchAmongLeaves(t, i).meta(30, 9))
	}
}

// branchAmongLeaves is the wood with a branch, 30, over eight leaves in the place of the leaf i.
func branchAmongLeaves(t *testing.T, i int) *disk {
	w := newWood()
	w.pages = 48
	if i%9 == 0 {
		w.inner[i/9].First = 30
	} else {
		w.inner[i/9].Links[i%9-1].Child = 30
	}
	d := w.lay(t)
	c := letter(i)
	b := api.Branch{First: 31}
	d.leaf(31, 9, pairsOf(c+"1", c+"2", c+"3"))
	for j := range 7 {
		k := c + "4" + letter(j)
		b.Links = append(b.Links, api.Link{Key: long(k), Child: 32 + j})
		d.leaf(32+j, 9, pairsOf(k+"\x7f1", k+"\x7f2", k+"\x7f3"))
	}
	return d.branch(30, 9, b)
}

// chain is a way of so many pages, the last of them a leaf: each branch leads to the next page by its first child; its other children are not there.
func chain(t *testing.T, depth int) *disk {
	d := newDisk(t, 100)
	for i := range depth - 1 {
		b := api.Branch{First: 3 + i}
		for j := range 7 {
			b.Links = append(b.Links, api.Link{Key: long(letter(25-i) + letter(j)), Child: 90 + j})
		}
		d.branch(2+i, 1, b)
	}
	return d.leaf(1+depth, 1, pairsOf("A", "B", "C")).meta(2, 1)
}

// A right tree of nine levels needs more pages than a device has: so what can be seen of MaxDepth in a small one is how far the walk goes down.
func TestP11_1_NoDeeperThanMaxDepth(t *testing.T) {
	for _, depth := range []int{2, 7, 8, 9, 10, 30} {
		d := chain(t, depth)
		want := 2 + 8*min(depth+1, 8)
		if depth <= 8 {
			want = 2 + 8*(depth+1)
		}
		if s, err := walk.Survey(d.Device); err != api.ErrCorrupt {
			t.Errorf("a way of %d pages: %s, %v", depth, short(s), err)
		}
		if r, _, _ := d.Counts(); r != want {
			t.Errorf("a way of %d pages: %d sectors were read; want %d: the way down to a depth of 8, and, if a leaf is there, the page beside it", depth, r, want)
		}
	}
}

// Condition 7: keys of pairs, by the branch right above and by one further up.
func TestP11_1_PairsOutOfTheirPlace(t *testing.T) {
	for i := range 18 {
		low, high := linkKey(i), linkKey(i+1)
		if i == 8 {
			high = "j"
		}
		if i == 9 {
			low = "j"
		}
		try := func(what string, right bool, l []api.Pair) {
			t.Helper()
			w := newWood()
			w.leaves[i] = l
			if right {
				wantFine(t, what, w.lay(t))
			} else {
				wantCorrupt(t, what, w.lay(t))
			}
		}
		c := letter(i)
		try("the least key", true, pairsOf(low, c+"1", c+"2"))
		try("a key below", i == 0, pairsOf(before(low), c+"1", c+"2"))
		try("a key far below", i == 0, pairsOf("A", c+"1", c+"2"))
		try("two keys below", i == 0, pairsOf("A", "B", c+"2"))
		try("all keys below", i == 0, pairsOf("A", "B", "C"))
		try("a key just below the next link", true, pairsOf(c+"1", c+"2", before(high)))
		try("a key at the next link", i == 17, pairsOf(c+"1", c+"2", high))
		try("a key far above", i == 17, pairsOf(c+"1", c+"2", "zzz"))
		try("two keys above", i == 17, pairsOf(c+"1", "zz", "zzz"))
		try("all keys above", i == 17, pairsOf("z", "zz", "zzz"))
	}
}

// before is a key just below k: its last byte one lower, and behind it as many bytes as may be.
func before(k string) string {
	last := len(k) - 1
	k = k[:last] + string(rune(k[last]-1))
	return k + strings.Repeat("~", api.MaxKey-len(k))
}

// Condition 7: keys of links.
func TestP11_1_LinksOutOfTheirPlace(t *testing.T) {
	for key, right := range map[string]bool{
		"i": false, linkKey(8): false, "i1": false, "i2": false, lastKey(8): false, // in the last leaf of the left branch
		lastKey(8)[:254] + "6": true, "i6": true, "j": true, "j1": true, // between the leaves
		"j10": false, "j2": false, lastKey(9): false, "k": false, linkKey(10): false, "k1": false, "zz": false, "A": false, "a1": false, "d": false, "n": false,
	} {
		w := newWood()
		w.top.Links[0].Key = key
		if right {
			wantFine(t, "the root's link "+key, w.lay(t))
		} else {
			wantCorrupt(t, "the root's link "+key, w.lay(t))
		}
	}
	for i := range 17 {
		if i == 8 {
			continue
		}
		for key, right := range map[string]bool{
			letter(i) + "1": false, letter(i) + "2": false, lastKey(i): false,
			lastKey(i)[:254] + "6": true, letter(i) + "6": true, letter(i + 1): true, letter(i+1) + "1": true,
			letter(i+1) + "10": false, letter(i+1) + "2": false, lastKey(i + 1): false,
		} {
			w := newWood()
			w.inner[i/9].Links[i%9].Key = key
			if right {
				wantFine(t, "the link "+key, w.lay(t))
			} else {
				wantCorrupt(t, "the link "+key, w.lay(t))
			}
		}
	}
}

// Two branches, or two leaves, that stand in each other's place.
func TestP11_1_Swapped(t *testing.T) {
	w := newWood()
	w.top.First, w.top.Links[0].Child = 19, 18
	wantCorrupt(t, "the branches", w.lay(t))
	w = newWood()
	l := w.inner[0].Links
	l[2].Child, l[3].Child = l[3].Child, l[2].Child
	wantCorrupt(t, "two leaves", w.lay(t))
	w = newWood()
	slices.Reverse(w.leaves[:])
	wantCorrupt(t, "all leaves", w.lay(t))
}
