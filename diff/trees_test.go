package diff_test

import (
	"fmt"
	"maps"
	"math"
	"math/rand"
	"slices"
	"strings"
	"testing"

	"copse/api"
	"copse/device"
	"copse/diff"
	"copse/free"
	"copse/pager"
	"copse/sheet"
	"copse/tree"
)

// wood is a device with trees on it. No page is ever given back, so that all of them stay.
type wood struct {
	t     *testing.T
	d     *device.Device
	taken *free.Map
}

const woodPages = 20000

func newWood(t *testing.T) *wood {
	t.Helper()
	taken, err := free.New(woodPages)
	must(t, err)
	return &wood{t: t, d: device.New(woodPages * api.PageSectors), taken: taken}
}

func (w *wood) empty() *tree.Tree { return tree.Open(w.d, api.Meta{}) }

// store puts the changed nodes of a tree on the device, and is the tree, opened from there.
func (w *wood) store(t *tree.Tree) *tree.Tree {
	w.t.Helper()
	sheets, root, err := t.Plan(w.taken, 1)
	must(w.t, err)
	for _, s := range sheets {
		must(w.t, sheet.Store(w.d, s))
	}
	must(w.t, w.d.Sync())
	return tree.Open(w.d, api.Meta{Root: root})
}

// grown is a tree in memory with these pairs, put in the order of the keys.
func (w *wood) grown(b book) *tree.Tree {
	w.t.Helper()
	t := w.empty()
	for _, p := range b.pairs() {
		must(w.t, t.Put(p.Key, p.Value))
	}
	return t
}

// version is a tree with the pairs that it has.
type version struct {
	name  string
	tree  *tree.Tree
	pairs book
}

// treeState is all that can be asked of a tree.
type treeState struct {
	pairs         []api.Pair
	leaves        []api.Span
	pages         []int
	changed, deep int
}

func stateOf(t *testing.T, tr *tree.Tree) treeState {
	t.Helper()
	pairs, err := tr.Pairs("", "", math.MaxInt)
	must(t, err)
	leaves, err := tr.Leaves()
	must(t, err)
	pages, err := tr.Pages()
	must(t, err)
	deep, err := tr.Depth()
	must(t, err)
	return treeState{pairs, leaves, pages, tr.Changed(), deep}
}

func (s treeState) equals(o treeState) bool {
	return slices.Equal(s.pairs, o.pairs) && slices.Equal(s.leaves, o.leaves) && slices.Equal(s.pages, o.pages) && s.changed == o.changed && s.deep == o.deep
}

// compare asks for the changes between two versions both ways, twice, and looks whether the trees are as they were.
func compare(t *testing.T, a, b version) {
	t.Helper()
	stateA, stateB := stateOf(t, a.tree), stateOf(t, b.tree)
	want := plainLists(a.pairs, b.pairs)
	for range 2 {
		l, err := diff.Trees(a.tree, b.tree)
		wantChanges(t, a.name+" to "+b.name, l, err, want, nil)
		l, err = diff.Trees(b.tree, a.tree)
		wantChanges(t, b.name+" to "+a.name, l, err, diff.Invert(want), nil)
	}
	if !stateOf(t, a.tree).equals(stateA) || !stateOf(t, b.tree).equals(stateB) {
		t.Errorf("%s and %s: a tree has changed", a.name, b.name)
	}
}

func compareAll(t *testing.T, versions []version) {
	t.Helper()
	for i, a := range versions {
		for _, b := range versions[i:] {
			compare(t, a, b)
		}
	}
}

// numbered is pairs k0000, k0001 and so on, with values of so many bytes.
func numbered(n, size int) book {
	b := book{}
	for i := range n {
		b[fmt.Sprintf("k%04d", i)] = strings.Repeat("v", size)
	}
	return b
}

// shares is how many leaves two trees have in the same page, and how many the first has.
func shares(t *testing.T, a, b *tree.Tree) (int, int) {
	t.Helper()
	pages, shared := map[int]int{}, 0
	for _, s := range stateOf(t, b).leaves {
		pages[s.Page]++
	}
	leaves := stateOf(t, a).leaves
	for _, s := range leaves {
		if s.Page != 0 && pages[s.Page] > 0 {
			shared++
		}
	}
	return shared, len(leaves)
}

func TestP19_2_TreesOfNoneOneAndManyLeaves(t *testing.T) {
	t.Parallel()
	w := newWood(t)
	odd := book{}
	for i, k := range oddKeys() {
		if len(k) > 0 && len(k) <= api.MaxKey {
			odd[k] = strings.Repeat("o", 40*i%701)
		}
	}
	var versions []version
	for _, v := range []version{
		{name: "none", pairs: book{}},
		{name: "one pair", pairs: book{"m": ""}},
		{name: "one leaf", pairs: numbered(40, 9)},
		{name: "odd keys", pairs: odd},
		{name: "two levels", pairs: numbered(60, 300)},
		{name: "three levels", pairs: numbered(2000, 700)},
	} {
		v.tree = w.grown(v.pairs)
		memory := v
		memory.name, memory.tree = v.name+" in memory", v.tree.Copy()
		v.tree = w.store(v.tree)
		versions = append(versions, memory, v)
	}
	if deep, err := versions[len(versions)-1].tree.Depth(); deep < 3 || err != nil {
		t.Fatal("no tree of three levels", deep, err)
	}
	compareAll(t, versions)
}

// alter makes some changes in a tree and in the map of its pairs.
func alter(t *testing.T, r *rand.Rand, tr *tree.Tree, b book, times int) {
	t.Helper()
	keys := slices.Sorted(maps.Keys(b))
	place := r.Intn(10000)
	for range times {
		k := fmt.Sprintf("k%04d", (place+r.Intn(30))%10000)
		if r.Intn(3) == 0 && len(keys) > 0 {
			k = keys[r.Intn(len(keys))]
		}
		if r.Intn(2) == 0 {
			_, err := tr.Delete(k)
			must(t, err)
			delete(b, k)
			continue
		}
		v := strings.Repeat(string(rune('a'+r.Intn(3))), r.Intn(701))
		must(t, tr.Put(k, v))
		b[k] = v
	}
}

// One tree grows out of the other, on the device or in memory; all that have been are held against one another.
func TestP19_2_TreesThatGrowOutOfOneAnother(t *testing.T) {
	t.Parallel()
	seen := map[string]int{}
	for seed := range int64(6) {
		r, w := rand.New(rand.NewSource(1900+seed)), newWood(t)
		b := numbered([]int{0, 5, 60, 400, 900, 2000}[seed], 90)
		tr := w.store(w.grown(b))
		versions := []version{{"first", tr.Copy(), maps.Clone(b)}}
		for i := range 12 {
			alter(t, r, tr, b, []int{0, 1, 2, 9, 60}[r.Intn(5)])
			if r.Intn(2) == 0 {
				tr = w.store(tr)
			}
			versions = append(versions, version{fmt.Sprint(seed, "/", i), tr.Copy(), maps.Clone(b)})
		}
		compareAll(t, versions)
		for _, v := range versions[1:] {
			shared, leaves := shares(t, versions[0].tree, v.tree)
			switch {
			case leaves == 0:
			case shared == leaves:
				seen["all"]++
			case shared == 0:
				seen["none"]++
			default:
				seen["some"]++
			}
		}
	}
	if seen["all"] == 0 || seen["some"] < 10 || seen["none"] < 5 {
		t.Errorf("%v", seen)
	}
}

// Committed by the pager, and ahead of it: the device holds the pages of the last two trees.
func TestP19_2_CommittedAndNot(t *testing.T) {
	d := device.New(8 * 2000)
	must(t, pager.Format(d))
	p, err := pager.Boot(d)
	must(t, err)
	r, b := rand.New(rand.NewSource(1950)), numbered(300, 200)
	tr := p.Tree()
	for _, x := range b.pairs() {
		must(t, tr.Put(x.Key, x.Value))
	}
	must(t, p.Commit(tr))
	for range 25 {
		old := version{"old", p.Tree(), maps.Clone(b)}
		now := p.Tree()
		alter(t, r, now, b, 1+r.Intn(12))
		compare(t, old, version{"at hand", now.Copy(), maps.Clone(b)})
		must(t, p.Commit(now))
		compare(t, old, version{"committed", p.Tree(), maps.Clone(b)})
	}
}

// The same pairs, put in other orders, lie in other leaves.
func TestP19_2_TheSamePairsInOtherLeaves(t *testing.T) {
	w, b := newWood(t), numbered(300, 200)
	up, mixed := w.store(w.grown(b)), w.empty()
	list := b.pairs()
	rand.New(rand.NewSource(1920)).Shuffle(len(list), func(i, j int) { list[i], list[j] = list[j], list[i] })
	for _, p := range list {
		must(t, mixed.Put(p.Key, p.Value))
	}
	memory := mixed.Copy()
	mixed = w.store(mixed)
	if slices.EqualFunc(stateOf(t, up).leaves, stateOf(t, mixed).leaves, func(a, b api.Span) bool { return a.From == b.From }) {
		t.Fatal("the leaves are alike")
	}
	if shared, _ := shares(t, up, mixed); shared != 0 {
		t.Fatal("they share leaves")
	}
	other := maps.Clone(b)
	third := up.Copy()
	must(t, third.Put("k0150", "other"))
	other["k0150"] = "other"
	compareAll(t, []version{{"up", up, b}, {"mixed", mixed, b}, {"in memory", memory, b}, {"third", third, other}})
}

// Both trees have leaves without a page: these are never taken for one another.
func TestP19_3_LeavesInMemoryAreAlwaysRead(t *testing.T) {
	w, b := newWood(t), numbered(300, 200)
	base := w.store(w.grown(b))
	versions := []version{{"base", base, b}}
	for i, k := range []string{"k0000", "k0001", "k0150", "k0299", "new", "a"} {
		v := version{fmt.Sprint("with ", k), base.Copy(), maps.Clone(b)}
		must(t, v.tree.Put(k, fmt.Sprint("value ", i)))
		v.pairs[k] = fmt.Sprint("value ", i)
		if leaves := stateOf(t, v.tree).leaves; !slices.ContainsFunc(leaves, func(s api.Span) bool { return s.Page == 0 }) {
			t.Fatal("no leaf in memory")
		}
		versions = append(versions, v)
	}
	compareAll(t, versions)
}

// unshared is the leaves of a tree that the other does not have on the device, as numbers among its leaves.
func unshared(leaves, others []api.Span) []int {
	var l []int
	for i, s := range leaves {
		if s.Page == 0 || !slices.ContainsFunc(others, func(o api.Span) bool { return o.Page == s.Page }) {
			l = append(l, i)
		}
	}
	return l
}

func reads(d *device.Device) int {
	n, _, _ := d.Counts()
	return n
}

// readsOf is how many sectors are read for the leaves of a tree, and by Pairs of those that the other does not have.
func readsOf(t *testing.T, d *device.Device, tr *tree.Tree, others []api.Span) int {
	t.Helper()
	before := reads(d)
	leaves, err := tr.Leaves()
	must(t, err)
	for _, i := range unshared(leaves, others) {
		to := ""
		if i+1 < len(leaves) {
			to = leaves[i+1].From
		}
		_, err := tr.Pairs(leaves[i].From, to, math.MaxInt)
		must(t, err)
	}
	return reads(d) - before
}

// What Trees reads is what Leaves of both and Pairs of the leaves that the other does not have read.
func TestP19_3_OtherLeavesAreNotRead(t *testing.T) {
	w, b := newWood(t), numbered(1500, 500)
	base := w.store(w.grown(b))
	all := reads(w.d)
	_, err := base.Pairs("", "", math.MaxInt)
	must(t, err)
	all = reads(w.d) - all
	r := rand.New(rand.NewSource(1930))
	for times := range 8 {
		now, pairs := base.Copy(), maps.Clone(b)
		alter(t, r, now, pairs, times)
		for _, tr := range []*tree.Tree{now, w.store(now.Copy())} {
			leavesA, leavesB := stateOf(t, base).leaves, stateOf(t, tr).leaves
			want := readsOf(t, w.d, base, leavesB) + readsOf(t, w.d, tr, leavesA)
			before := reads(w.d)
			l, err := diff.Trees(base, tr)
			wantChanges(t, "changes", l, err, plainLists(b, pairs), nil)
			if got := reads(w.d) - before; got != want || got > all/2 {
				t.Errorf("%d changes: %d sectors read, want %d, all are %d", times, got, want, all)
			}
		}
	}
}

// spoil makes a page be none.
func spoil(t *testing.T, d *device.Device, page int) {
	t.Helper()
	p, err := d.Read(page*api.PageSectors, 1)
	must(t, err)
	p[100] ^= 1
	must(t, d.Write(page*api.PageSectors, p))
	must(t, d.Sync())
}

// Leaves that both have may be lost: nobody looks at them. (The first one tells how deep the tree is.)
func TestP19_3_SharedLeavesMayBeSpoilt(t *testing.T) {
	w, b := newWood(t), numbered(300, 500)
	base := w.store(w.grown(b))
	now, pairs := base.Copy(), maps.Clone(b)
	for _, k := range []string{"k0100", "k0101", "k0200"} {
		must(t, now.Put(k, "other"))
		pairs[k] = "other"
	}
	now = w.store(now)
	leavesA, leavesB := stateOf(t, base).leaves, stateOf(t, now).leaves
	spoilt := 0
	for i, s := range leavesA {
		if i > 0 && !slices.Contains(unshared(leavesA, leavesB), i) {
			spoil(t, w.d, s.Page)
			spoilt++
		}
	}
	if spoilt < 20 {
		t.Fatalf("%d leaves are shared", spoilt)
	}
	for range 2 {
		l, err := diff.Trees(base, now)
		wantChanges(t, "there", l, err, plainLists(b, pairs), nil)
		l, err = diff.Trees(now, base)
		wantChanges(t, "back", l, err, plainLists(pairs, b), nil)
	}
}

func TestP19_2_DeadDevice(t *testing.T) {
	w, b := newWood(t), numbered(300, 200)
	base := w.store(w.grown(b))
	now, pairs := base.Copy(), maps.Clone(b)
	must(t, now.Put("k0100", "other"))
	pairs["k0100"] = "other"
	memory := version{"in memory", w.grown(numbered(20, 9)), numbered(20, 9)}
	versions := []version{{"base", base, b}, {"now", now, pairs}, {"stored", w.store(now.Copy()), pairs}, memory, {"none", w.empty(), book{}}}
	w.d.Crash(nil)
	for i, a := range versions {
		for j, b := range versions {
			if i >= 3 && j >= 3 {
				continue
			}
			l, err := diff.Trees(a.tree, b.tree)
			wantChanges(t, a.name+" to "+b.name+" without power", l, err, nil, api.ErrDead)
		}
	}
	w.d.Revive()
	compareAll(t, versions)
}

// The power fails amid a commit of one of the trees: what is in memory of them is not enough.
func TestP19_2_DeviceDiesInACommit(t *testing.T) {
	for after := range 4 {
		d := device.New(8 * 400)
		must(t, pager.Format(d))
		p, err := pager.Boot(d)
		must(t, err)
		tr := p.Tree()
		for _, x := range numbered(100, 200).pairs() {
			must(t, tr.Put(x.Key, x.Value))
		}
		must(t, p.Commit(tr))
		old, now := p.Tree(), p.Tree()
		must(t, now.Put("k0050", "other"))
		d.Arm(after, nil)
		if err := p.Commit(now.Copy()); err != api.ErrDead {
			t.Fatal(after, err)
		}
		l, err := diff.Trees(old, now)
		wantChanges(t, "dead", l, err, nil, api.ErrDead)
		d.Revive()
		l, err = diff.Trees(old, now)
		wantChanges(t, "revived", l, err, changes(turned("k0050", strings.Repeat("v", 200), "other")), nil)
	}
}

// An error of either tree's Pairs goes on as it is.
func TestP19_2_ErrorsOfEitherTree(t *testing.T) {
	w, b := newWood(t), numbered(300, 500)
	base := w.store(w.grown(b))
	now := base.Copy()
	must(t, now.Put("k0100", strings.Repeat("w", 500)))
	now = w.store(now)
	leavesA, leavesB := stateOf(t, base).leaves, stateOf(t, now).leaves
	mine, its := unshared(leavesA, leavesB), unshared(leavesB, leavesA)
	if len(mine) != 1 || len(its) != 1 || mine[0] == 0 {
		t.Fatal(mine, its)
	}
	for _, page := range []int{leavesA[mine[0]].Page, leavesB[its[0]].Page} {
		d, err := device.Open(w.d.Size(), w.d.Durable())
		must(t, err)
		spoil(t, d, page)
		a, z := reopen(t, d, base), reopen(t, d, now)
		for _, two := range [][2]*tree.Tree{{a, z}, {z, a}} {
			l, err := diff.Trees(two[0], two[1])
			wantChanges(t, "spoilt", l, err, nil, api.ErrCorrupt)
		}
	}
}

// reopen is the tree of the same root over another device.
func reopen(t *testing.T, d *device.Device, tr *tree.Tree) *tree.Tree {
	t.Helper()
	taken, err := free.New(4)
	must(t, err)
	_, root, err := tr.Plan(taken, 1)
	must(t, err)
	return tree.Open(d, api.Meta{Root: root})
}
