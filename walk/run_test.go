package walk_test

import (
	"fmt"
	"maps"
	"math/rand"
	"os"
	"reflect"
	"slices"
	"strings"
	"testing"

	"copse/api"
	"copse/branch"
	"copse/device"
	"copse/free"
	"copse/leaf"
	"copse/meta"
	"copse/sheet"
	"copse/tree"
	"copse/walk"
)

// wantFewReads wants that Survey reads the slots and so many pages at most, Content twice as much, and that neither changes anything.
func wantFewReads(t *testing.T, what string, d *device.Device, pages int) {
	t.Helper()
	durable, pending := d.Durable(), d.Pending()
	r0, w0, s0 := d.Counts()
	_, _ = walk.Survey(d)
	r1, _, _ := d.Counts()
	_, _ = walk.Content(d)
	r2, w2, s2 := d.Counts()
	if most := 2 + 8*pages; r1-r0 > most || r2-r1 > 2*most {
		t.Errorf("%s: Survey read %d sectors, Content %d; want at most %d and twice as many", what, r1-r0, r2-r1, most)
	}
	if w2 != w0 || s2 != s0 || !slices.Equal(d.Durable(), durable) || !slices.Equal(d.Pending(), pending) {
		t.Errorf("%s: something was written or synced", what)
	}
}

func TestP11_3_Reads(t *testing.T) {
	wantFewReads(t, "zeros", device.New(32), 0)
	wantFewReads(t, "an empty store", newDisk(t, 4).meta(0, 0).Device, 0)
	wantFewReads(t, "no page", newDisk(t, 4).meta(2, 1).Device, 1)
	wantFewReads(t, "two leaves", twoLeaves(t).Device, 3)
	d := newWood().lay(t)
	wantFewReads(t, "the wood", d.Device, 21)
	if err := d.Sync(); err != nil {
		t.Fatal(err)
	}
	wantFewReads(t, "the wood, durable", d.Device, 21)
	d.Crash(nil)
	wantFewReads(t, "dead", d.Device, 0)
	wantFewReads(t, "too small", device.New(31), 0)
}

// A page to which many links lead is read once.
func TestP11_3_PagesMetTwice(t *testing.T) {
	for _, id := range []int{2, 5, 10, 20, 21, 22} {
		w := newWood()
		w.inner[1].Links[7].Child = id
		wantFewReads(t, "the last leaf's link leads elsewhere", w.lay(t).Device, 20)
	}
	d := twoLeaves(t).branch(7, 6, api.Branch{First: 7, Links: []api.Link{{Key: "k", Child: 3}}})
	wantFewReads(t, "the root under itself", d.Device, 2)
	d = newDisk(t, 4).meta(2, 1).branch(2, 1, api.Branch{First: 3, Links: []api.Link{{Key: "k", Child: 2}}}).branch(3, 1, api.Branch{First: 2, Links: []api.Link{{Key: "a", Child: 3}}})
	wantFewReads(t, "a ring of two", d.Device, 2)
}

// Every page a branch, over any others: there are ways without number.
func TestP11_3_Thickets(t *testing.T) {
	r := rand.New(rand.NewSource(113))
	for range 60 {
		d := newDisk(t, 40)
		for id := 2; id < 40; id++ {
			kids := r.Perm(38)
			b := api.Branch{First: 2 + kids[0]}
			for j, k := range kids[1:8] {
				b.Links = append(b.Links, api.Link{Key: long(letter(r.Intn(3)) + letter(2*j+r.Intn(2))), Child: 2 + k})
			}
			slices.SortFunc(b.Links, func(a, b api.Link) int { return strings.Compare(a.Key, b.Key) })
			if branch.Check(b, false) == nil {
				d.branch(id, 1, b)
			}
		}
		d.meta(2+r.Intn(38), 1)
		wantFewReads(t, "a thicket", d.Device, 38)
		wantError(t, "a thicket", d.Device, api.ErrCorrupt)
	}
}

// scribble writes any bytes to all sectors but the slots and those of these pages.
func scribble(r *rand.Rand, d *device.Device, pages []int) {
	keep := map[int]bool{0: true, 8: true}
	for _, id := range pages {
		for i := range 8 {
			keep[8*id+i] = true
		}
	}
	p := make([]byte, 512)
	for i := range d.Size() {
		if !keep[i] {
			r.Read(p)
			_ = d.Write(i, p)
		}
	}
}

func TestP11_4_OtherPagesChangeNothing(t *testing.T) {
	r := rand.New(rand.NewSource(114))
	for what, d := range map[string]*disk{"two leaves": twoLeaves(t), "the wood": newWood().lay(t), "an empty store": newDisk(t, 4).meta(0, 0), "an older meta": newWood().lay(t).meta(24, 8)} {
		s, err := walk.Survey(d.Device)
		l, err2 := walk.Content(d.Device)
		if err != nil || err2 != nil {
			t.Fatal(what, err, err2)
		}
		scribble(r, d.Device, s.Pages)
		wantStore(t, what, d.Device, s, l)
	}
	d := newWood().lay(t).meta(24, 10)
	scribble(r, d.Device, nil)
	wantCorrupt(t, "nothing but the slots is whole", d)
}

// run is a tree that is planned, stored and begun anew again and again, and the pairs that it should have.
type run struct {
	t     *testing.T
	r     *rand.Rand
	d     *device.Device
	pages int
	tree  *tree.Tree
	meta  api.Meta
	want  map[string]string
}

func newRun(t *testing.T, seed int64, pages int) *run {
	d := device.New(8 * pages)
	m := api.Meta{Pages: pages}
	if err := meta.Store(d, m); err != nil {
		t.Fatal(err)
	}
	return &run{t, rand.New(rand.NewSource(seed)), d, pages, tree.Open(d, m), m, map[string]string{}}
}

func (w *run) step(keys, size int, puts int) {
	w.t.Helper()
	k := fmt.Sprintf("%05d", w.r.Intn(keys))
	k += strings.Repeat("k", w.r.Intn(size)%250)
	if w.r.Intn(100) < puts {
		v := strings.Repeat("v", w.r.Intn(size))
		if err := w.tree.Put(k, v); err != nil {
			w.t.Fatal(err)
		}
		w.want[k] = v
		return
	}
	if l, err := w.tree.Pairs(k[:5], "", 1); err == nil && len(l) == 1 {
		k = l[0].Key
	}
	if _, err := w.tree.Delete(k); err != nil {
		w.t.Fatal(err)
	}
	delete(w.want, k)
}

// commit plans with the map of the pages that the walk has met, as whoever opens the device would.
func (w *run) commit() {
	w.t.Helper()
	s, err := walk.Survey(w.d)
	if err != nil {
		w.t.Fatal(err)
	}
	f, err := free.New(w.pages)
	if err != nil {
		w.t.Fatal(err)
	}
	for _, id := range s.Pages {
		if err := f.Mark(id); err != nil {
			w.t.Fatal(err)
		}
	}
	w.meta.Txid++
	sheets, root, err := w.tree.Plan(f, w.meta.Txid)
	if err != nil {
		w.t.Fatal(err)
	}
	for _, s := range sheets {
		if err := sheet.Store(w.d, s); err != nil {
			w.t.Fatal(err)
		}
	}
	w.meta.Root = root
	if err := meta.Store(w.d, w.meta); err != nil {
		w.t.Fatal(err)
	}
	_ = w.d.Sync()
	w.tree = tree.Open(w.d, w.meta)
}

// check wants of the walk what the tree says, and what the pairs say.
func (w *run) check() {
	w.t.Helper()
	var want []api.Pair
	size := 0
	for _, k := range slices.Sorted(maps.Keys(w.want)) {
		want = append(want, api.Pair{Key: k, Value: w.want[k]})
		size += len(k) + len(w.want[k])
	}
	pages, err := w.tree.Pages()
	depth, err2 := w.tree.Depth()
	pairs, err3 := w.tree.Pairs("", "", len(want)+1)
	if err != nil || err2 != nil || err3 != nil || !samePairs(pairs, want) {
		w.t.Fatalf("the tree: %v, %v, %v, %d pairs", err, err2, err3, len(pairs))
	}
	slices.Sort(pages)
	s := api.Survey{Meta: w.meta, Slot: int(w.meta.Txid % 2), Depth: depth, Pages: pages, Pairs: len(want), Bytes: size}
	wantStore(w.t, fmt.Sprintf("transaction %d", w.meta.Txid), w.d, s, want)
	wantAsJudged(w.t, "by the judge", w.d)
	wantFewReads(w.t, "reads", w.d, len(pages))
}

func TestP11_4_TreesOfLongRuns(t *testing.T) {
	for _, c := range []struct{ keys, size, steps, pages int }{{20, 8, 3, 16}, {60, 700, 12, 128}, {3000, 30, 150, 512}, {400, 690, 60, 1024}} {
		w := newRun(t, int64(c.keys), c.pages)
		w.check()
		for i := range 60 {
			puts := 80
			if i/15%2 == 1 {
				puts = 20
			}
			for range w.r.Intn(c.steps + 1) {
				w.step(c.keys, c.size, puts)
			}
			w.commit()
			w.check()
		}
		for len(w.want) > 0 {
			for range c.steps + len(w.want)/2 {
				w.step(c.keys, c.size, 0)
			}
			w.commit()
			w.check()
		}
	}
}

// forest is a tree of many levels that package tree has made, on a device with some pages to spare.
func forest(t *testing.T, seed int64) *run {
	w := newRun(t, seed, 220)
	for range 90 {
		k := fmt.Sprintf("%05d", w.r.Intn(400)) + strings.Repeat("k", 250)
		w.want[k] = strings.Repeat("v", 300+w.r.Intn(400))
		if err := w.tree.Put(k, w.want[k]); err != nil {
			t.Fatal(err)
		}
		if w.r.Intn(20) == 0 {
			w.commit()
		}
	}
	w.commit()
	w.check()
	return w
}

// Any change of a right tree: the judge and the walk say the same of it.
func TestP11_5_ChangedTrees(t *testing.T) {
	w := forest(t, 115)
	base := w.d.Durable()
	r := rand.New(rand.NewSource(116))
	fine := 0
	for range 800 {
		e, err := device.Open(w.d.Size(), base)
		if err != nil {
			t.Fatal(err)
		}
		d := &disk{e, t, w.pages}
		for range 1 + r.Intn(2) {
			spoil(r, d)
		}
		if wantAsJudged(t, "a changed tree", d.Device) {
			fine++
		}
		wantFewReads(t, "a changed tree", d.Device, w.pages-2)
	}
	if fine < 40 || fine > 760 {
		t.Errorf("%d of 800 are stores: the test tries too little", fine)
	}
}

// spoil changes something: bytes of a page as they are, or what the page says, sealed anew.
func spoil(r *rand.Rand, d *disk) {
	s, err := walk.Survey(d.Device)
	if err != nil || len(s.Pages) == 0 {
		return
	}
	id := s.Pages[r.Intn(len(s.Pages))]
	p, _ := d.Read(8*id, 8)
	switch r.Intn(12) {
	case 0:
		p[r.Intn(4096)] ^= 1 << r.Intn(8)
		d.write(8*id, p)
		return
	case 1:
		d.write(8*(2+r.Intn(d.pages-2)), p)
		return
	case 2:
		slot := r.Intn(2)
		q, _ := d.Read(8*slot, 1)
		q[r.Intn(40)] ^= 1 << r.Intn(8)
		d.write(8*slot, q)
		return
	case 3:
		m := api.Meta{Pages: d.pages, Root: s.Pages[r.Intn(len(s.Pages))], Txid: s.Meta.Txid + uint64(r.Intn(3))}
		_ = meta.Store(d.Device, m)
		return
	}
	page, _ := sheet.Read(p, id)
	if r.Intn(4) == 0 {
		page.Txid = []uint64{0, 1, s.Meta.Txid, s.Meta.Txid + 1}[r.Intn(4)]
	} else if page.Kind == api.KindLeaf {
		l, _ := leaf.Decode(page.Count, page.Body)
		page.Body, page.Count = spoiltLeaf(r, l)
	} else {
		b, _ := branch.Decode(page.Count, page.Body)
		page.Body, page.Count = spoiltBranch(r, b, s.Pages)
	}
	if page.Body != "" {
		d.page(id, page)
	}
}

func spoiltLeaf(r *rand.Rand, l []api.Pair) (string, int) {
	i := r.Intn(len(l))
	switch r.Intn(3) {
	case 0:
		l[i].Key = l[i].Key[:r.Intn(len(l[i].Key))+1]
	case 1:
		l[i].Value = l[i].Value[:r.Intn(len(l[i].Value)+1)]
	case 2:
		k := []byte(l[i].Key)
		k[r.Intn(6)] += byte(r.Intn(3)) - 1
		l[i].Key = string(k)
	}
	body, _ := leaf.Encode(l)
	return body, len(l)
}

func spoiltBranch(r *rand.Rand, b api.Branch, pages []int) (string, int) {
	i := r.Intn(len(b.Links))
	switch r.Intn(4) {
	case 0:
		b.Links[i].Child = pages[r.Intn(len(pages))]
	case 1:
		b.First = pages[r.Intn(len(pages))]
	case 2:
		k := []byte(b.Links[i].Key)
		k[r.Intn(len(k))] += byte(r.Intn(3)) - 1
		b.Links[i].Key = string(k)
	case 3:
		b.Links = slices.Delete(b.Links, i, i+1)
	}
	body, _ := branch.Encode(b)
	return body, len(b.Links) + 1
}

func TestP11_5_AnyBytes(t *testing.T) {
	r := rand.New(rand.NewSource(117))
	w := forest(t, 118)
	for range 300 {
		n := r.Intn(120)
		d := device.New(n)
		for i := range n {
			p := make([]byte, 512)
			switch r.Intn(3) {
			case 0:
				r.Read(p)
			case 1:
				p, _ = w.d.Read(i, 1)
			}
			_ = d.Write(i, p)
		}
		if pages := n / 8; pages >= 4 {
			_ = meta.Store(d, api.Meta{Pages: pages, Root: 2 + r.Intn(pages-2), Txid: r.Uint64()})
		}
		wantAsJudged(t, "any bytes", d)
		wantFewReads(t, "any bytes", d, max(n/8-2, 0))
	}
}

func TestP11_5_NewMemory(t *testing.T) {
	d := newWood().lay(t)
	s, err := walk.Survey(d.Device)
	l, err2 := walk.Content(d.Device)
	if err != nil || err2 != nil {
		t.Fatal(err, err2)
	}
	keep, pairs := slices.Clone(s.Pages), slices.Clone(l)
	for i := range s.Pages[:cap(s.Pages)] {
		s.Pages[:cap(s.Pages)][i] = -1
	}
	for i := range l[:cap(l)] {
		l[:cap(l)][i] = api.Pair{Key: "x", Value: "y"}
	}
	s2, err := walk.Survey(d.Device)
	l2, err2 := walk.Content(d.Device)
	if err != nil || err2 != nil || !reflect.DeepEqual(s2.Pages, keep) || !samePairs(l2, pairs) {
		t.Errorf("what was written into an answer is seen in a later one: %v, %v, %v", s2.Pages, err, err2)
	}
	_ = append(s2.Pages, 7)
	_ = append(l2, api.Pair{})
	wantFine(t, "grown", d)
}

// deepSheets makes a right tree of that depth with as few pages as there may be: the root has two children, each other branch eight, each leaf two pairs.
type deepMaker struct {
	d    *device.Device
	t    *testing.T
	next int
	keys int
	err  error
}

func (m *deepMaker) key() string {
	m.keys++
	return fmt.Sprintf("%0255d", m.keys)
}

func (m *deepMaker) put(s api.Sheet) int {
	m.next++
	if err := sheet.Store(m.d, s); err != nil {
		m.t.Fatal(err)
	}
	if m.next%4096 == 0 {
		_ = m.d.Sync()
	}
	return s.ID
}

func (m *deepMaker) grow(levels, kids int) (int, string) {
	if levels == 1 {
		l := []api.Pair{{Key: m.key(), Value: strings.Repeat("v", 700)}, {Key: m.key(), Value: strings.Repeat("v", 336)}}
		return m.put(leafSheet(m.t, m.next, 1, l)), l[0].Key
	}
	first, low := m.grow(levels-1, 8)
	b := api.Branch{First: first}
	for range kids - 1 {
		id, k := m.grow(levels-1, 8)
		b.Links = append(b.Links, api.Link{Key: k, Child: id})
	}
	return m.put(branchSheet(m.t, m.next, 1, b)), low
}

func testDepth(t *testing.T, depth, pages int) {
	m := &deepMaker{d: device.New(8 * pages), t: t, next: 2}
	root, _ := m.grow(depth, 2)
	if err := meta.Store(m.d, api.Meta{Pages: pages, Root: root, Txid: 1}); err != nil {
		t.Fatal(err)
	}
	_ = m.d.Sync()
	s, err := walk.Survey(m.d)
	if err != nil || s.Depth != depth || len(s.Pages) != m.next-2 || s.Pairs != m.keys {
		t.Errorf("%v, depth %d, %d pages, %d pairs; want %d, %d and %d", err, s.Depth, len(s.Pages), s.Pairs, depth, m.next-2, m.keys)
	}
	if r, _, _ := m.d.Counts(); r != 2+8*len(s.Pages) {
		t.Errorf("%d sectors were read for %d pages", r, len(s.Pages))
	}
}

func TestP11_1_DeepTrees(t *testing.T) {
	testDepth(t, 4, 200)
	testDepth(t, 5, 1200)
	testDepth(t, 6, 9500)
}

// The least tree of MaxDepth has some 600000 pages: it wants a minute and two thousand million bytes of memory.
func TestP11_1_MaxDepth(t *testing.T) {
	if os.Getenv("COPSE_DEEP") == "" {
		t.Skip("it takes long: COPSE_DEEP=1 runs it")
	}
	testDepth(t, api.MaxDepth, api.MaxPages)
}
