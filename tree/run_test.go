package tree_test

import (
	"fmt"
	"math/rand"
	"slices"
	"strings"
	"testing"

	"copse/api"
	"copse/branch"
	"copse/device"
	"copse/free"
	"copse/leaf"
	"copse/sheet"
	"copse/tree"
)

// diet is what kind of pairs a run feeds on.
type diet struct {
	name             string
	keys             int // how many unlike ones there are
	keyLeast, keyMax int
	valueMax         int
}

var diets = []diet{
	{"small pairs", 1800, 5, 9, 4},
	{"long keys", 500, 255, 255, 0},
	{"long keys, long values", 400, 250, 255, 700},
	{"long values", 400, 5, 5, 700},
	{"keys of all lengths", 600, 5, 255, 30},
	{"all lengths", 600, 5, 255, 700},
}

// run is a tree on a device, beside it the plain one and the pairs.
type run struct {
	rnd   *rand.Rand
	diet  diet
	pages int
	d     *device.Device
	tree  *tree.Tree
	plain *plainTree
	book  book
	txid  uint64
}

func newRun(f diet, seed int64) *run {
	d := device.New(8 * 4000)
	return &run{rnd: rand.New(rand.NewSource(seed)), diet: f, pages: 4000, d: d, tree: tree.Open(d, api.Meta{}), plain: &plainTree{}}
}

// key is the same length whenever the same number comes up.
func (r *run) key(i int) string {
	span := r.diet.keyMax - r.diet.keyLeast + 1
	return key(fmt.Sprintf("%05d", i), r.diet.keyLeast+i*7919%span)
}

func (r *run) anyKey() string { return r.key(r.rnd.Intn(r.diet.keys)) }

func (r *run) anyValue() string {
	n := r.rnd.Intn(r.diet.valueMax + 1)
	if r.rnd.Intn(4) == 0 {
		n = r.diet.valueMax
	}
	return strings.Repeat(string(rune('a'+r.rnd.Intn(26))), n)
}

func (r *run) put(t *testing.T, k, v string) {
	if err := r.tree.Put(k, v); err != nil {
		t.Fatalf("Put(%q): %v", bare(k), err)
	}
	r.plain.put(k, v)
	r.book = r.book.with(k, v)
}

func (r *run) drop(t *testing.T, k string) {
	had, err := r.tree.Delete(k)
	if had != r.book.has(k) || err != nil {
		t.Fatalf("Delete(%q) = %v, %v, want %v", bare(k), had, err, r.book.has(k))
	}
	r.plain.drop(k)
	r.book = r.book.without(k)
}

// step puts, or takes away what is there, so many times of ten.
func (r *run) step(t *testing.T, puts int) {
	switch {
	case r.rnd.Intn(10) < puts:
		r.put(t, r.anyKey(), r.anyValue())
	case len(r.book) > 0 && r.rnd.Intn(8) > 0:
		r.drop(t, r.book[r.rnd.Intn(len(r.book))].Key)
	default:
		r.drop(t, r.anyKey())
	}
	if n := r.tree.Changed(); n != r.plain.changed() {
		t.Fatalf("Changed = %d, want %d", n, r.plain.changed())
	}
}

func (r *run) ask(t *testing.T) {
	k := r.anyKey()
	v, is, err := r.tree.Get(k)
	if want, has := r.book.get(k); v != want || is != has || err != nil {
		t.Fatalf("Get(%q) = %d bytes, %v, %v, want %d, %v", bare(k), len(v), is, err, len(want), has)
	}
	p, is, err := r.tree.Below(k)
	if want, has := r.book.below(k); p != want || is != has || err != nil {
		t.Fatalf("Below(%q) = %q, %v, %v, want %q, %v", bare(k), bare(p.Key), is, err, bare(want.Key), has)
	}
	to, limit := r.anyKey(), r.rnd.Intn(20)
	l, err := r.tree.Pairs(k, to, limit)
	if want := r.book.pairs(k, to, limit); !slices.Equal(l, want) || err != nil {
		t.Fatalf("Pairs(%q, %q, %d): %d, %v, want %d", bare(k), bare(to), limit, len(l), err, len(want))
	}
}

// hold holds all that can be seen of the tree against the plain one and the pairs.
func (r *run) hold(t *testing.T) {
	wantTold(t, r.tree, r.plain)
	wantNodes(t, r.d, r.tree, r.plain)
	wantPairs(t, r.tree, r.book)
}

// holey is a map in which the tree's pages are taken, and some others.
func (r *run) holey(t *testing.T) *free.Map {
	m := mapOf(t, r.pages, r.plain.pages())
	for range r.rnd.Intn(60) {
		_ = m.Mark(2 + r.rnd.Intn(150)) // it may be taken already
	}
	return m
}

// commit plans the tree, holds what comes against the plain one's plan, and writes it.
func (r *run) commit(t *testing.T) {
	m := r.holey(t)
	lowest, err := m.Copy().Take(r.plain.changed())
	if err != nil {
		t.Fatal(err)
	}
	wantMap := m.Copy()
	_, _ = wantMap.Take(len(lowest))
	r.txid += 1 + uint64(r.rnd.Intn(3))
	sheets, root, err := r.tree.Plan(m, r.txid)
	want := r.plain.plan(lowest, r.txid)
	if !slices.Equal(sheets, want) || root != r.plain.rootPage() || err != nil {
		t.Fatalf("Plan = %d sheets, root %d, %v, want %d, %d", len(sheets), root, err, len(want), r.plain.rootPage())
	}
	if !sameMaps(m, wantMap) {
		t.Fatal("Plan has taken other pages than it should")
	}
	write(t, r.d, sheets)
	wantSound(t, r.d, root)
}

func sameMaps(a, b *free.Map) bool {
	for id := range a.Size() {
		if a.Used(id) != b.Used(id) {
			return false
		}
	}
	return a.Size() == b.Size()
}

func (r *run) reopen() { r.tree = tree.Open(r.d, api.Meta{Root: r.plain.rootPage()}) }

// wantSound goes through what lies on the device, by the layers below alone.
func wantSound(t *testing.T, d *device.Device, root int) {
	t.Helper()
	met := map[int]int{}
	depths := map[int]int{}
	var look func(id int, low, high string, depth int)
	look = func(id int, low, high string, depth int) {
		s, err := sheet.Load(d, id)
		if met[id]++; met[id] > 1 || err != nil || depth > api.MaxDepth {
			t.Fatalf("page %d: %v, met %d times, %d deep", id, err, met[id], depth)
		}
		inside := func(k string) {
			if k < low || high != "" && k >= high {
				t.Fatalf("page %d: the key %q is not from %q to %q", id, bare(k), bare(low), bare(high))
			}
		}
		if s.Kind == api.KindLeaf {
			depths[depth]++
			l, err := leaf.Decode(s.Count, s.Body)
			if err != nil || leaf.Check(l, depth == 1) != nil {
				t.Fatalf("the leaf %d: %v, %v", id, err, leaf.Check(l, depth == 1))
			}
			for _, p := range l {
				inside(p.Key)
			}
			return
		}
		b, err := branch.Decode(s.Count, s.Body)
		if err != nil || branch.Check(b, depth == 1) != nil {
			t.Fatalf("the branch %d: %v, %v", id, err, branch.Check(b, depth == 1))
		}
		child, from := b.First, low
		for _, l := range b.Links {
			inside(l.Key)
			look(child, from, l.Key, depth+1)
			child, from = l.Child, l.Key
		}
		look(child, from, high, depth+1)
	}
	if root != 0 {
		look(root, "", "", 1)
	}
	if len(depths) > 1 {
		t.Fatalf("the leaves lie at these depths: %v", depths)
	}
}

// TestP10_9_LongRuns grows and shrinks trees, ahead of Plans, behind them, and opened again.
func TestP10_9_LongRuns(t *testing.T) {
	for i, f := range diets {
		t.Run(f.name, func(t *testing.T) {
			t.Parallel()
			r := newRun(f, int64(i+1))
			for _, puts := range []int{9, 9, 5, 2, 7, 1, 8, 0} {
				for step := range f.keys {
					r.step(t, puts)
					if step%7 == 0 {
						r.ask(t)
					}
					if step%101 == 100 {
						r.hold(t)
					}
					if r.rnd.Intn(60) == 0 {
						r.commit(t)
						r.hold(t)
					}
					if r.plain.changed() == 0 && r.rnd.Intn(2) == 0 {
						r.reopen()
					}
				}
				r.commit(t)
				r.reopen()
				r.hold(t)
			}
		})
	}
}

// TestP10_9_InOrder grows and shrinks trees from one end, and takes away from either.
func TestP10_9_InOrder(t *testing.T) {
	for i, f := range diets[1:] {
		t.Run(f.name, func(t *testing.T) {
			t.Parallel()
			for _, falling := range []bool{false, true} {
				r := newRun(f, int64(i+11))
				n := 300
				at := func(i int) string {
					if falling {
						return r.key(n - 1 - i)
					}
					return r.key(i)
				}
				for i := range n {
					r.put(t, at(i), r.anyValue())
					if i%50 == 49 {
						r.hold(t)
					}
				}
				r.commit(t)
				grown, root := r.plain.root.copied(), r.plain.rootPage()
				pairs := slices.Clone(r.book)
				for i := range n {
					r.drop(t, at(i))
				}
				r.hold(t)
				r.plain, r.book = &plainTree{root: grown}, pairs
				r.tree = tree.Open(r.d, api.Meta{Root: root})
				for i := range n {
					r.drop(t, at(n-1-i))
					if i%50 == 49 {
						r.hold(t)
					}
				}
				if r.plain.root != nil {
					t.Error("the plain tree is not empty")
				}
			}
		})
	}
}

// Deep trees need not be great: keys and values as long as may be make one of four levels and more.
func TestP10_9_ADeepTree(t *testing.T) {
	r := newRun(diet{"", 900, 255, 255, 700}, 77)
	for i := range 900 {
		r.put(t, r.key(i), strings.Repeat("v", 700))
	}
	if n, err := r.tree.Depth(); n < 4 || err != nil {
		t.Fatalf("Depth = %d, %v", n, err)
	}
	r.commit(t)
	r.hold(t)
	for len(r.book) > 0 {
		r.drop(t, r.book[r.rnd.Intn(len(r.book))].Key)
		if len(r.book)%211 == 0 {
			r.commit(t)
			r.hold(t)
		}
	}
}
