package tree_test

import (
	"fmt"
	"math"
	"math/rand"
	"slices"
	"strings"
	"testing"

	"copse/api"
	"copse/branch"
	"copse/device"
	"copse/free"
	"copse/leaf"
	"copse/sheet"
	"copse/tree"
)

// sixKeys is a tree of two changed leaves of three pairs each and a changed root, over a device of ten pages.
func sixKeys(t *testing.T) (*device.Device, *tree.Tree) {
	t.Helper()
	d := device.New(80)
	r := tree.Open(d, api.Meta{Pages: 10})
	for i := range 6 {
		put(t, r, exampleKey(i+1))
	}
	return d, r
}

// exampleKey is one of the pairs of the chapter's examples.
func exampleKey(i int) api.Pair {
	return api.Pair{Key: fmt.Sprintf("key%02d", i), Value: strings.Repeat("V", 695)}
}

func wantState(t *testing.T, r *tree.Tree, depth, changed int, pages ...int) {
	t.Helper()
	n, err := r.Depth()
	if n != depth || err != nil || r.Changed() != changed {
		t.Errorf("Depth = %d, %v, Changed = %d, want %d, %d", n, err, r.Changed(), depth, changed)
	}
	if l, err := r.Pages(); !slices.Equal(l, pages) || err != nil {
		t.Errorf("Pages = %v, %v, want %v", l, err, pages)
	}
}

// planned is a plan that must come through.
func planned(t *testing.T, r *tree.Tree, m *free.Map, txid uint64) ([]api.Sheet, int) {
	t.Helper()
	sheets, root, err := r.Plan(m, txid)
	if err != nil {
		t.Fatalf("Plan: %v", err)
	}
	return sheets, root
}

func TestExamples(t *testing.T) {
	d := device.New(80)
	r := tree.Open(d, api.Meta{Root: 0})
	if v, is, err := r.Get("a"); v != "" || is || err != nil {
		t.Errorf("Get = %q, %v, %v", v, is, err)
	}
	if had, err := r.Delete("a"); had || err != nil {
		t.Errorf("Delete = %v, %v", had, err)
	}
	wantState(t, r, 0, 0)
	for _, p := range []api.Pair{{Key: "", Value: "1"}, {Key: strings.Repeat("k", 256), Value: "1"}, {Key: "a", Value: strings.Repeat("v", 701)}} {
		if err := r.Put(p.Key, p.Value); err != api.ErrArg {
			t.Errorf("Put of %d and %d bytes: %v", len(p.Key), len(p.Value), err)
		}
	}
	for i := range 5 {
		put(t, r, exampleKey(i+1))
	}
	wantState(t, r, 1, 1)
	put(t, r, exampleKey(6))
	wantState(t, r, 2, 3)
	wantDrawn(t, d, r, "*<*(key01 key02 key03) key04 *(key04 key05 key06)>")

	sheets, root := planned(t, r, mapOf(t, 10, nil), 1)
	if root != 4 || len(sheets) != 3 {
		t.Fatalf("root %d, %d sheets", root, len(sheets))
	}
	write(t, d, sheets)
	wantState(t, r, 2, 0, 2, 3, 4)
	wantDrawn(t, d, r, "<(key01 key02 key03) key04 (key04 key05 key06)>")

	other := r.Copy()
	mustDelete(t, other, "key01")
	wantState(t, other, 1, 1)
	wantDrawn(t, d, other, "*(key02 key03 key04 key05 key06)")

	other = r.Copy()
	put(t, other, exampleKey(4))
	wantState(t, other, 2, 2, 2)
	if l, root, err := other.Plan(mapOf(t, 4, []int{2}), 2); l != nil || root != 0 || err != api.ErrFull {
		t.Errorf("Plan = %d sheets, %d, %v, want ErrFull", len(l), root, err)
	}
	wantState(t, other, 2, 2, 2)

	other = r.Copy()
	put(t, other, api.Pair{Key: "key09", Value: "1"})
	wantState(t, other, 2, 2, 2)
	mustDelete(t, other, "key09")
	wantState(t, other, 2, 2, 2)

	if had, err := r.Delete("none"); had || err != nil {
		t.Errorf("Delete = %v, %v", had, err)
	}
	wantState(t, r, 2, 0, 2, 3, 4)
}

func TestP10_10_TheSheets(t *testing.T) {
	_, r := sixKeys(t)
	sheets, root := planned(t, r, mapOf(t, 10, []int{3, 5, 6}), 7)
	if len(sheets) != 3 || root != 7 {
		t.Fatalf("%d sheets, root %d", len(sheets), root)
	}
	for i, want := range []struct {
		from, to, id int
	}{{1, 3, 2}, {4, 6, 4}} {
		var pairs []api.Pair
		for k := want.from; k <= want.to; k++ {
			pairs = append(pairs, exampleKey(k))
		}
		body, err := leaf.Encode(pairs)
		must(t, err)
		if s := (api.Sheet{Kind: api.KindLeaf, ID: want.id, Txid: 7, Count: 3, Body: body}); sheets[i] != s {
			t.Errorf("sheet %d: %d, page %d, txid %d, count %d", i, sheets[i].Kind, sheets[i].ID, sheets[i].Txid, sheets[i].Count)
		}
	}
	body, err := branch.Encode(api.Branch{First: 2, Links: []api.Link{{Key: "key04", Child: 4}}})
	must(t, err)
	if s := (api.Sheet{Kind: api.KindBranch, ID: 7, Txid: 7, Count: 2, Body: body}); sheets[2] != s {
		t.Errorf("the root's sheet: %d, page %d, txid %d, count %d", sheets[2].Kind, sheets[2].ID, sheets[2].Txid, sheets[2].Count)
	}
}

func TestP10_10_AnyTxid(t *testing.T) {
	for _, txid := range []uint64{0, 1, math.MaxInt64 + 1, math.MaxUint64} {
		_, r := sixKeys(t)
		sheets, _ := planned(t, r, mapOf(t, 10, nil), txid)
		for _, s := range sheets {
			if s.Txid != txid {
				t.Errorf("Txid %d, want %d", s.Txid, txid)
			}
		}
	}
}

// The order is told by the pages: leaves and branches of three levels, of which some were there.
func TestP10_10_TheOrder(t *testing.T) {
	d, r, p := grown(t, wide())
	for _, i := range []int{70, 3, 31, 4} {
		k := p.leaves()[i].From
		put(t, r, api.Pair{Key: k, Value: strings.Repeat("w", 300)})
		p.put(k, strings.Repeat("w", 300))
	}
	m := mapOf(t, 400, p.pages())
	free := m.Free() - 8
	sheets, root := planned(t, r, m, 9)
	if len(sheets) != 8 || root != sheets[7].ID {
		t.Fatalf("%d sheets, root %d", len(sheets), root)
	}
	var kinds []int
	for _, s := range sheets {
		kinds = append(kinds, s.Kind)
	}
	want := []int{api.KindLeaf, api.KindLeaf, api.KindBranch, api.KindLeaf, api.KindBranch, api.KindLeaf, api.KindBranch, api.KindBranch}
	if !slices.Equal(kinds, want) {
		t.Errorf("the kinds are %v, want %v", kinds, want)
	}
	if m.Free() != free {
		t.Errorf("%d pages are free, want %d", m.Free(), free)
	}
	write(t, d, sheets)
	wantSound(t, d, root)
}

func TestP10_10_NoChanges(t *testing.T) {
	_, r, p := grown(t, wide())
	for _, m := range []*free.Map{mapOf(t, 400, p.pages()), full(t)} {
		before := m.Copy()
		if l, root, err := r.Plan(m, 5); len(l) != 0 || root != p.rootPage() || err != nil || !sameMaps(m, before) {
			t.Errorf("Plan = %d sheets, %d, %v, want none, %d", len(l), root, err, p.rootPage())
		}
	}
	wantTold(t, r, p)
	empty := tree.Open(device.New(0), api.Meta{})
	if l, root, err := empty.Plan(full(t), 5); len(l) != 0 || root != 0 || err != nil {
		t.Errorf("Plan of an empty tree = %d sheets, %d, %v", len(l), root, err)
	}
}

// full is a map without a free page.
func full(t *testing.T) *free.Map {
	t.Helper()
	return mapOf(t, 4, []int{2, 3})
}

// A tree that has become empty has no nodes, so none is changed.
func TestP10_10_OfATreeThatHasBecomeEmpty(t *testing.T) {
	_, r, p := grown(t, leafOf("a", 0, 600))
	mustDelete(t, r, "a")
	m := mapOf(t, 10, p.pages())
	if l, root, err := r.Plan(m, 5); len(l) != 0 || root != 0 || err != nil || m.Free() != 7 {
		t.Errorf("Plan = %d sheets, %d, %v", len(l), root, err)
	}
	wantState(t, r, 0, 0)
}

func TestP10_10_JustEnoughAndOneFewer(t *testing.T) {
	d, r, p := grown(t, wide())
	for _, i := range []int{70, 3, 31} {
		k := p.leaves()[i].From
		put(t, r, api.Pair{Key: k, Value: strings.Repeat("w", 300)})
		p.put(k, strings.Repeat("w", 300))
	}
	n := p.changed()
	for free := range n {
		m := mapOf(t, 400, p.pages())
		_, err := m.Take(m.Free() - free)
		must(t, err)
		before := m.Copy()
		if l, root, err := r.Plan(m, 5); l != nil || root != 0 || err != api.ErrFull {
			t.Fatalf("Plan of %d nodes with %d pages = %d sheets, %d, %v, want ErrFull", n, free, len(l), root, err)
		}
		if !sameMaps(m, before) {
			t.Fatal("the map has changed with ErrFull")
		}
		wantTold(t, r, p)
	}
	wantNodes(t, d, r, p)
	m := mapOf(t, 400, p.pages())
	_, err := m.Take(m.Free() - n)
	must(t, err)
	sheets, root := planned(t, r, m, 5)
	if len(sheets) != n || root != 399 || m.Free() != 0 {
		t.Errorf("%d sheets, root %d, %d pages are free", len(sheets), root, m.Free())
	}
}

// Behind a Plan the tree goes on from the pages: what changes then is given pages of its own.
func TestP10_10_OnePlanBehindAnother(t *testing.T) {
	d, r := sixKeys(t)
	m := mapOf(t, 10, nil)
	sheets, _ := planned(t, r, m, 1)
	write(t, d, sheets)
	put(t, r, exampleKey(7))
	wantState(t, r, 2, 2, 2)
	sheets, root := planned(t, r, m, 2)
	write(t, d, sheets)
	if len(sheets) != 2 || sheets[0].ID != 5 || root != 6 || m.Free() != 3 {
		t.Errorf("%d sheets, root %d, %d pages are free", len(sheets), root, m.Free())
	}
	wantState(t, r, 2, 0, 2, 5, 6)
	sheets, root = planned(t, r, m, 3)
	if len(sheets) != 0 || root != 6 || m.Free() != 3 {
		t.Errorf("%d sheets, root %d, %d pages are free", len(sheets), root, m.Free())
	}
	wantDrawn(t, d, r, "<(key01 key02 key03) key04 (key04 key05 key06 key07)>")
}

// With a map that does not know the tree's pages the call just ends.
func TestP10_10_AMapOfSomethingElse(t *testing.T) {
	rnd := rand.New(rand.NewSource(5))
	for range 60 {
		_, r, p := grown(t, wide())
		for range 1 + rnd.Intn(6) {
			put(t, r, api.Pair{Key: p.leaves()[1+rnd.Intn(71)].From, Value: strings.Repeat("w", 300)})
		}
		changed := r.Changed()
		m := mapOf(t, 4+rnd.Intn(400), nil)
		for range rnd.Intn(200) {
			_ = m.Mark(rnd.Intn(400))
		}
		before := m.Copy()
		sheets, root, err := r.Plan(m, 5)
		if err != nil && (sheets != nil || root != 0 || r.Changed() != changed || !sameMaps(m, before)) {
			t.Fatalf("Plan = %d sheets, %d, %v, and %d changed nodes of %d", len(sheets), root, err, r.Changed(), changed)
		}
		for _, s := range sheets {
			if _, err := sheet.Seal(s); err != nil {
				t.Fatalf("the sheet of page %d: %v", s.ID, err)
			}
		}
	}
}

func TestP10_11_CopiesHearNothingOfEachOther(t *testing.T) {
	for _, first := range []bool{true, false} {
		for _, root := range forest() {
			d, r, p := grown(t, root)
			for i, span := range p.leaves() {
				if i%9 == 0 {
					put(t, r, api.Pair{Key: bare(span.From) + "!", Value: "1"})
					p.put(bare(span.From)+"!", "1")
				}
			}
			c, q := r.Copy(), &plainTree{root: p.root.copied()}
			wantTold(t, c, q)
			one, two := r, c
			if !first {
				one, two = c, r
			}
			still := &plainTree{root: q.root.copied()}
			for i := range 30 {
				k := key(fmt.Sprint("n", i), 200)
				put(t, one, api.Pair{Key: k, Value: strings.Repeat("x", 300)})
				q.put(k, strings.Repeat("x", 300))
			}
			for _, pair := range bookOf(still.root) {
				mustDelete(t, one, pair.Key)
				q.drop(pair.Key)
			}
			wantNodes(t, d, one, q)
			wantTold(t, one, q)
			wantNodes(t, d, two, still)
			wantTold(t, two, still)
			wantPairs(t, two, bookOf(still.root))
		}
	}
}

// A Plan of the one is none of the other: that has its changed nodes still, and gives them pages of its own.
func TestP10_11_PlansOfCopies(t *testing.T) {
	d, r := sixKeys(t)
	c := r.Copy()
	m := mapOf(t, 20, nil)
	sheets, root := planned(t, r, m, 1)
	wantState(t, c, 2, 3)
	other, second := planned(t, c.Copy(), m, 1)
	wantState(t, c, 2, 3)
	if root != 4 || second != 7 || len(other) != 3 || other[0].Body != sheets[0].Body || other[1].Body != sheets[1].Body {
		t.Errorf("roots %d and %d, %d sheets", root, second, len(other))
	}
	write(t, d, sheets)
	wantState(t, r, 2, 0, 2, 3, 4)
	mustDelete(t, c, "key01")
	wantState(t, c, 1, 1)
	wantDrawn(t, d, r, "<(key01 key02 key03) key04 (key04 key05 key06)>")
	e := r.Copy()
	mustDelete(t, r, "key06")
	wantDrawn(t, d, e, "<(key01 key02 key03) key04 (key04 key05 key06)>")
	wantDrawn(t, d, c, "*(key02 key03 key04 key05 key06)")
	wantDrawn(t, d, r, "*(key01 key02 key03 key04 key05)")
}

func TestP10_11_ACopyOfAnEmptyTree(t *testing.T) {
	d := device.New(80)
	r := tree.Open(d, api.Meta{})
	c := r.Copy()
	put(t, c, api.Pair{Key: "a"})
	wantState(t, r, 0, 0)
	put(t, r, api.Pair{Key: "b"})
	wantDrawn(t, d, c, "*(a)")
	wantDrawn(t, d, r, "*(b)")
}

func TestP10_12_NoOperationOfTheDevice(t *testing.T) {
	for i, root := range forest() {
		d, r, p := grown(t, root)
		_, written, synced := d.Counts()
		for j := range 40 {
			k := key(fmt.Sprint("n", j), 255)
			must(t, r.Put(k, strings.Repeat("x", 700)))
			_, _, _ = r.Get(k)
			_, _ = r.Pairs("", "", 10)
			_, _, _ = r.Below(k)
			_, _ = r.Leaves()
			_, _ = r.Depth()
			_, _ = r.Pages()
		}
		for _, x := range bookOf(p.root) {
			mustDelete(t, r.Copy(), x.Key)
			mustDelete(t, r, x.Key)
		}
		_, _ = planned(t, r.Copy(), mapOf(t, 1000, p.pages()), 3)
		_, _ = planned(t, r, mapOf(t, 1000, p.pages()), 3)
		if _, a, b := d.Counts(); a != written || b != synced || len(d.Pending()) != 0 {
			t.Errorf("tree %d: %d sectors were written, %d syncs made", i, a-written, b-synced)
		}
	}
}

// spoil writes over a list and into the room behind it.
func spoil[T any](l []T, junk T) {
	l = l[:cap(l)]
	for i := range l {
		l[i] = junk
	}
	_ = append(l, junk)
}

func TestP10_12_ListsAreNewMemory(t *testing.T) {
	for _, root := range forest() {
		d, r, p := grown(t, root)
		for _, span := range p.leaves() {
			put(t, r, api.Pair{Key: bare(span.From) + "!", Value: "1"})
			p.put(bare(span.From)+"!", "1")
		}
		b := bookOf(p.root)
		for _, limit := range []int{1, 2, 3, 5, 1000} {
			l, err := r.Pairs("", "", limit)
			must(t, err)
			other, err := r.Pairs("", "", limit)
			must(t, err)
			spoil(l, api.Pair{Key: "junk", Value: "junk"})
			if !slices.Equal(other, b.pairs("", "", limit)) {
				t.Fatal("two lists of pairs share memory")
			}
		}
		leaves, err := r.Leaves()
		must(t, err)
		spoil(leaves, api.Span{Page: 99, From: "junk"})
		pages, err := r.Pages()
		must(t, err)
		spoil(pages, 99)
		c := r.Copy()
		sheets, _ := planned(t, c, mapOf(t, 1000, p.pages()), 3)
		write(t, d, sheets)
		spoil(sheets, api.Sheet{Kind: 99, ID: 99, Body: "junk"})
		wantNodes(t, d, r, p)
		wantTold(t, r, p)
		wantPairs(t, r, b)
		wantPairs(t, c, b)
	}
}
