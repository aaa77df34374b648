package tree_test

import (
	"fmt"
	"math"
	"slices"
	"sort"
	"strings"
	"testing"

	"copse/api"
	"copse/branch"
	"copse/device"
	"copse/free"
	"copse/leaf"
	"copse/sheet"
	"copse/tree"
)

const (
	bodyLen   = 4072
	leafMin   = 1556
	branchMin = 1777
)

// book is the rising pairs that a tree should have.
type book []api.Pair

func (b book) place(key string) int {
	return sort.Search(len(b), func(i int) bool { return b[i].Key >= key })
}

func (b book) has(key string) bool {
	i := b.place(key)
	return i < len(b) && b[i].Key == key
}

func (b book) get(key string) (string, bool) {
	if b.has(key) {
		return b[b.place(key)].Value, true
	}
	return "", false
}

func (b book) without(key string) book {
	return slices.DeleteFunc(slices.Clone(b), func(p api.Pair) bool { return p.Key == key })
}

func (b book) with(key, value string) book {
	l := b.without(key)
	return slices.Insert(l, l.place(key), api.Pair{Key: key, Value: value})
}

func (b book) pairs(from, to string, limit int) []api.Pair {
	var l []api.Pair
	for _, p := range b {
		if p.Key >= from && (to == "" || p.Key < to) && len(l) < limit {
			l = append(l, p)
		}
	}
	return l
}

func (b book) below(key string) (api.Pair, bool) {
	end := len(b)
	if key != "" {
		end = b.place(key)
	}
	if end == 0 {
		return api.Pair{}, false
	}
	return b[end-1], true
}

// plain is a node as one would draw it: page 0 is a changed one; a leaf has pairs, a branch one kid more than it has keys.
type plain struct {
	page  int
	pairs []api.Pair
	keys  []string
	kids  []*plain
}

// plainTree goes by the words of P10.7, one after the other, and writes into its nodes as it goes.
type plainTree struct{ root *plain }

func (p *plain) isLeaf() bool { return len(p.kids) == 0 }

func pairSizes(l []api.Pair) []int {
	var sizes []int
	for _, p := range l {
		sizes = append(sizes, 5+len(p.Key)+len(p.Value))
	}
	return sizes
}

func keySizes(keys []string) []int {
	var sizes []int
	for _, k := range keys {
		sizes = append(sizes, 7+len(k))
	}
	return sizes
}

func sum(l []int) int {
	all := 0
	for _, n := range l {
		all += n
	}
	return all
}

func (p *plain) size() int {
	if p.isLeaf() {
		return sum(pairSizes(p.pairs))
	}
	return 6 + sum(keySizes(p.keys))
}

func (p *plain) least() int {
	if p.isLeaf() {
		return leafMin
	}
	return branchMin
}

// evenest is the first i in these bounds for which the sizes ahead of i and those from i + skip on are nearest to each other.
func evenest(sizes []int, from, to, skip int) int {
	best, least := 0, math.MaxInt
	for i := from; i <= to; i++ {
		gap := sum(sizes[:i]) - sum(sizes[i+skip:])
		if gap = max(gap, -gap); gap < least {
			best, least = i, gap
		}
	}
	return best
}

// cut leaves the left half in the node: the key between, and the right half.
func (p *plain) cut() (string, *plain) {
	if p.isLeaf() {
		i := evenest(pairSizes(p.pairs), 1, len(p.pairs)-1, 0)
		right := &plain{pairs: slices.Clone(p.pairs[i:])}
		p.pairs = slices.Clone(p.pairs[:i])
		return right.pairs[0].Key, right
	}
	i := evenest(keySizes(p.keys), 1, len(p.keys)-2, 1)
	key := p.keys[i]
	right := &plain{keys: slices.Clone(p.keys[i+1:]), kids: slices.Clone(p.kids[i+1:])}
	p.keys, p.kids = slices.Clone(p.keys[:i]), slices.Clone(p.kids[:i+1])
	return key, right
}

func (p *plain) pick(key string) int {
	at := 0
	for i, k := range p.keys {
		if k <= key {
			at = i + 1
		}
	}
	return at
}

// way is the nodes down to the leaf of a key, and of each but the leaf which kid comes next.
func (r *plainTree) way(key string) ([]*plain, []int) {
	way, places := []*plain{r.root}, []int{}
	for n := r.root; !n.isLeaf(); {
		i := n.pick(key)
		n = n.kids[i]
		way, places = append(way, n), append(places, i)
	}
	return way, places
}

func (r *plainTree) put(key, value string) {
	if r.root == nil {
		r.root = &plain{pairs: []api.Pair{{Key: key, Value: value}}}
		return
	}
	way, places := r.way(key)
	n := way[len(way)-1]
	n.pairs = book(n.pairs).with(key, value)
	r.lookUp(way, places)
}

func (r *plainTree) drop(key string) {
	if r.root == nil {
		return
	}
	way, places := r.way(key)
	n := way[len(way)-1]
	if book(n.pairs).has(key) {
		n.pairs = book(n.pairs).without(key)
		r.lookUp(way, places)
	}
}

func (r *plainTree) lookUp(way []*plain, places []int) {
	for _, n := range way {
		n.page = 0
	}
	for i := len(way) - 1; i > 0; i-- {
		way[i-1].lookAt(places[i-1])
	}
	r.lookAtRoot()
}

// lookAt does what P10.7 says of a kid that is not the root.
func (p *plain) lookAt(at int) {
	switch n := p.kids[at]; {
	case n.size() > bodyLen:
		key, right := n.cut()
		p.keys = slices.Insert(p.keys, at, key)
		p.kids = slices.Insert(p.kids, at+1, right)
	case n.size() < n.least() && at > 0:
		p.put2(at - 1)
	case n.size() < n.least():
		p.put2(0)
	}
}

// put2 puts two kids together that stand beside each other.
func (p *plain) put2(i int) {
	a, b := p.kids[i], p.kids[i+1]
	both := &plain{pairs: slices.Concat(a.pairs, b.pairs), kids: slices.Concat(a.kids, b.kids)}
	if !a.isLeaf() {
		both.keys = slices.Concat(a.keys, []string{p.keys[i]}, b.keys)
	}
	p.kids[i] = both
	if both.size() > bodyLen {
		p.keys[i], p.kids[i+1] = both.cut()
		return
	}
	p.keys = slices.Delete(p.keys, i, i+1)
	p.kids = slices.Delete(p.kids, i+1, i+2)
}

func (r *plainTree) lookAtRoot() {
	n := r.root
	switch {
	case n.size() > bodyLen:
		key, right := n.cut()
		r.root = &plain{keys: []string{key}, kids: []*plain{n, right}}
	case n.isLeaf() && len(n.pairs) == 0:
		r.root = nil
	case !n.isLeaf() && len(n.keys) == 0:
		r.root = n.kids[0]
	}
}

// each hands on the nodes, those below a branch ahead of it, the first first.
func (p *plain) each(do func(p *plain, from string, depth int)) { p.eachFrom("", 1, do) }

func (p *plain) eachFrom(from string, depth int, do func(p *plain, from string, depth int)) {
	if p == nil {
		return
	}
	for i, k := range p.kids {
		if i == 0 {
			k.eachFrom(from, depth+1, do)
		} else {
			k.eachFrom(p.keys[i-1], depth+1, do)
		}
	}
	do(p, from, depth)
}

func (r *plainTree) changed() int {
	n := 0
	r.root.each(func(p *plain, _ string, _ int) {
		if p.page == 0 {
			n++
		}
	})
	return n
}

func (r *plainTree) depth() int {
	most := 0
	r.root.each(func(_ *plain, _ string, depth int) { most = max(most, depth) })
	return most
}

func (r *plainTree) pages() []int {
	var pages []int
	r.root.each(func(p *plain, _ string, _ int) {
		if p.page != 0 {
			pages = append(pages, p.page)
		}
	})
	slices.Sort(pages)
	return pages
}

func (r *plainTree) leaves() []api.Span {
	var l []api.Span
	r.root.each(func(p *plain, from string, _ int) {
		if p.isLeaf() {
			l = append(l, api.Span{Page: p.page, From: from})
		}
	})
	return l
}

func (r *plainTree) rootPage() int {
	if r.root == nil {
		return 0
	}
	return r.root.page
}

// plan gives the changed nodes these pages, and is the sheets of them.
func (r *plainTree) plan(pages []int, txid uint64) []api.Sheet {
	var sheets []api.Sheet
	r.root.each(func(p *plain, _ string, _ int) {
		if p.page == 0 {
			p.page, pages = pages[0], pages[1:]
			sheets = append(sheets, p.sheet(txid))
		}
	})
	return sheets
}

// sheet is a node's page; those of its kids are known.
func (p *plain) sheet(txid uint64) api.Sheet {
	if p.isLeaf() {
		body, _ := leaf.Encode(p.pairs)
		return api.Sheet{Kind: api.KindLeaf, ID: p.page, Txid: txid, Count: len(p.pairs), Body: body}
	}
	b := api.Branch{First: p.kids[0].page}
	for i, k := range p.keys {
		b.Links = append(b.Links, api.Link{Key: k, Child: p.kids[i+1].page})
	}
	body, _ := branch.Encode(b)
	return api.Sheet{Kind: api.KindBranch, ID: p.page, Txid: txid, Count: len(p.kids), Body: body}
}

func (p *plain) copied() *plain {
	if p == nil {
		return nil
	}
	c := &plain{page: p.page, pairs: slices.Clone(p.pairs), keys: slices.Clone(p.keys)}
	for _, k := range p.kids {
		c.kids = append(c.kids, k.copied())
	}
	return c
}

func same(a, b *plain) bool {
	if a == nil || b == nil {
		return a == b
	}
	return a.page == b.page && slices.Equal(a.pairs, b.pairs) && slices.Equal(a.keys, b.keys) && slices.EqualFunc(a.kids, b.kids, same)
}

// drawn is a node as a text: leaves in round brackets, branches in angular ones, the keys without their filling; a changed one has a star.
func (p *plain) drawn() string {
	if p == nil {
		return "empty"
	}
	star := ""
	if p.page == 0 {
		star = "*"
	}
	var words []string
	for _, x := range p.pairs {
		words = append(words, bare(x.Key))
	}
	for i, k := range p.kids {
		if i > 0 {
			words = append(words, bare(p.keys[i-1]))
		}
		words = append(words, k.drawn())
	}
	if p.isLeaf() {
		return star + "(" + strings.Join(words, " ") + ")"
	}
	return star + "<" + strings.Join(words, " ") + ">"
}

// key is a name filled up to so many bytes with what stands below all letters and digits; a key of no given length is just its name.
func key(name string, length int) string { return name + strings.Repeat("-", max(length-len(name), 0)) }

func bare(key string) string { return strings.TrimRight(key, "-") }

// pair has a key of that length and, with its lengths and its slot, that size.
func pair(name string, length, size int) api.Pair {
	k := key(name, length)
	if size-5-len(k) > 700 {
		panic(fmt.Sprintf("a pair with a key of %d bytes has no size of %d", len(k), size))
	}
	return api.Pair{Key: k, Value: strings.Repeat("v", size-5-len(k))}
}

// leafOf is a leaf of pairs of these sizes; their names are those of the leaf and a letter, but the first has the leaf's own, filled up to that length.
func leafOf(name string, length int, sizes ...int) *plain {
	p := &plain{pairs: []api.Pair{pair(name, length, sizes[0])}}
	for i, size := range sizes[1:] {
		p.pairs = append(p.pairs, pair(name+string(rune('b'+i)), 0, size))
	}
	return p
}

// branchOf is a branch of these kids; the keys between are the first ones of the leaves below them.
func branchOf(kids ...*plain) *plain {
	p := &plain{kids: kids}
	for _, k := range kids[1:] {
		for !k.isLeaf() {
			k = k.kids[0]
		}
		p.keys = append(p.keys, k.pairs[0].Key)
	}
	return p
}

// kidsOf are leaves as small as may be whose first keys have these lengths.
func kidsOf(name string, lengths ...int) []*plain {
	var kids []*plain
	for i, length := range lengths {
		kids = append(kids, leafOf(fmt.Sprintf("%s%02d", name, i), length, 519, 519, 518))
	}
	return kids
}

func times(n, length int) []int { return slices.Repeat([]int{length}, n) }

// grown is a tree of such nodes on a device, in its pages from 2 on, and opened; the nodes know their pages then.
func grown(t *testing.T, root *plain) (*device.Device, *tree.Tree, *plainTree) {
	t.Helper()
	r := &plainTree{root: root}
	root.each(func(p *plain, _ string, _ int) { p.page = 0 })
	count := r.changed()
	d := device.New(8 * (2*count + 40))
	pages := make([]int, count)
	for i := range pages {
		pages[i] = i + 2
	}
	write(t, d, r.plan(pages, 1))
	return d, tree.Open(d, api.Meta{Root: r.rootPage()}), r
}

func write(t *testing.T, d *device.Device, sheets []api.Sheet) {
	t.Helper()
	for _, s := range sheets {
		if err := sheet.Store(d, s); err != nil {
			t.Fatalf("the sheet of page %d: %v", s.ID, err)
		}
	}
	if err := d.Sync(); err != nil {
		t.Fatal(err)
	}
}

// mapOf is a map of so many pages in which these are taken.
func mapOf(t *testing.T, size int, pages []int) *free.Map {
	t.Helper()
	m, err := free.New(size)
	if err != nil {
		t.Fatal(err)
	}
	for _, id := range pages {
		if err := m.Mark(id); err != nil {
			t.Fatalf("page %d: %v", id, err)
		}
	}
	return m
}

func pagesOf(t *testing.T, r *tree.Tree) []int {
	t.Helper()
	pages, err := r.Pages()
	if err != nil {
		t.Fatalf("Pages: %v", err)
	}
	return pages
}

// seen is a tree's nodes: those that a Plan of its copy tells, and those on the device.
func seen(t *testing.T, d *device.Device, r *tree.Tree) *plain {
	t.Helper()
	sheets, root, err := r.Copy().Plan(mapOf(t, 1<<16, pagesOf(t, r)), 1)
	if err != nil {
		t.Fatalf("Plan: %v", err)
	}
	changed := map[int]api.Sheet{}
	for _, s := range sheets {
		changed[s.ID] = s
	}
	return nodeAt(t, d, changed, root)
}

func nodeAt(t *testing.T, d *device.Device, changed map[int]api.Sheet, id int) *plain {
	if id == 0 {
		return nil
	}
	p := &plain{}
	s, ok := changed[id]
	if !ok {
		var err error
		if s, err = sheet.Load(d, id); err != nil {
			t.Fatalf("page %d: %v", id, err)
		}
		p.page = id
	}
	if s.Kind == api.KindLeaf {
		pairs, err := leaf.Decode(s.Count, s.Body)
		if err != nil {
			t.Fatalf("page %d is no leaf: %v", id, err)
		}
		p.pairs = pairs
		return p
	}
	b, err := branch.Decode(s.Count, s.Body)
	if err != nil {
		t.Fatalf("page %d is no branch: %v", id, err)
	}
	p.kids = append(p.kids, nodeAt(t, d, changed, b.First))
	for _, l := range b.Links {
		p.keys = append(p.keys, l.Key)
		p.kids = append(p.kids, nodeAt(t, d, changed, l.Child))
	}
	return p
}

func must(t *testing.T, err error) {
	t.Helper()
	if err != nil {
		t.Fatal(err)
	}
}

func mustDelete(t *testing.T, r *tree.Tree, key string) {
	t.Helper()
	if had, err := r.Delete(key); !had || err != nil {
		t.Fatalf("Delete(%.20q) = %v, %v, want true", key, had, err)
	}
}

func wantDrawn(t *testing.T, d *device.Device, r *tree.Tree, want string) {
	t.Helper()
	if got := seen(t, d, r).drawn(); got != want {
		t.Errorf("the tree is\n%s\nwant\n%s", got, want)
	}
}

// wantNodes holds a tree against its plain one, node by node.
func wantNodes(t *testing.T, d *device.Device, r *tree.Tree, p *plainTree) {
	t.Helper()
	if got := seen(t, d, r); !same(got, p.root) {
		t.Fatalf("the tree is\n%s\nwant\n%s", got.drawn(), p.root.drawn())
	}
}

// wantTold holds what Depth, Changed, Leaves and Pages say against the plain tree.
func wantTold(t *testing.T, r *tree.Tree, p *plainTree) {
	t.Helper()
	if n, err := r.Depth(); n != p.depth() || err != nil {
		t.Fatalf("Depth = %d, %v, want %d", n, err, p.depth())
	}
	if n := r.Changed(); n != p.changed() {
		t.Fatalf("Changed = %d, want %d", n, p.changed())
	}
	if l, err := r.Pages(); !slices.Equal(l, p.pages()) || err != nil {
		t.Fatalf("Pages = %v, %v, want %v", l, err, p.pages())
	}
	if l, err := r.Leaves(); !slices.Equal(l, p.leaves()) || err != nil {
		t.Fatalf("Leaves = %v, %v, want %v", l, err, p.leaves())
	}
}

func wantPairs(t *testing.T, r *tree.Tree, want []api.Pair) {
	t.Helper()
	l, err := r.Pairs("", "", math.MaxInt)
	if !slices.Equal(l, want) || err != nil {
		t.Fatalf("%d pairs, %v, want %d", len(l), err, len(want))
	}
}
