package walk_test

import (
	"slices"
	"strings"
	"testing"

	"copse/api"
	"copse/device"
	"copse/leaf"
	"copse/meta"
	"copse/walk"
)

func TestP11_1_NoMeta(t *testing.T) {
	wantCorrupt(t, "zeros", newDisk(t, 4))
	wantCorrupt(t, "a leaf and no meta", newDisk(t, 4).leaf(2, 1, pairsOf("a")))
	p, err := meta.Encode(api.Meta{Pages: 4, Root: 0, Txid: 0})
	if err != nil {
		t.Fatal(err)
	}
	wantCorrupt(t, "slot 1 holds what belongs into slot 0", newDisk(t, 4).write(8, p))
	wantCorrupt(t, "the meta of a device of other pages", newDisk(t, 5).write(0, p))
	p[20]++
	wantCorrupt(t, "a meta with another sum", newDisk(t, 4).write(0, p))
}

func TestP11_1_EmptyTree(t *testing.T) {
	for _, txid := range []uint64{0, 1, 2, 7, 1<<64 - 1} {
		d := newDisk(t, 4).meta(0, txid)
		wantStore(t, "root 0", d.Device, api.Survey{Meta: api.Meta{Pages: 4, Txid: txid}, Slot: int(txid % 2)}, nil)
	}
}

func TestP11_1_TwoMetas(t *testing.T) {
	old, young := pairsOf("a"), pairsOf("b", "c")
	d := newDisk(t, 6).leaf(2, 4, old).leaf(3, 5, young).meta(2, 4).meta(3, 5)
	want := api.Survey{Meta: api.Meta{Pages: 6, Root: 3, Txid: 5}, Slot: 1, Depth: 1, Pages: []int{3}, Pairs: 2, Bytes: 1400}
	wantStore(t, "slot 1 is the younger one", d.Device, want, young)
	d.meta(2, 6)
	want = api.Survey{Meta: api.Meta{Pages: 6, Root: 2, Txid: 6}, Slot: 0, Depth: 1, Pages: []int{2}, Pairs: 1, Bytes: 700}
	wantStore(t, "slot 0 is the younger one", d.Device, want, old)
	d.write(0, []byte(strings.Repeat("x", 512)))
	want = api.Survey{Meta: api.Meta{Pages: 6, Root: 3, Txid: 5}, Slot: 1, Depth: 1, Pages: []int{3}, Pairs: 2, Bytes: 1400}
	wantStore(t, "slot 0 is torn", d.Device, want, young)
	d.meta(0, 8)
	wantStore(t, "the younger one says that all is gone", d.Device, api.Survey{Meta: api.Meta{Pages: 6, Txid: 8}}, nil)
}

func TestP11_1_OlderMetaIsNotAsked(t *testing.T) {
	wantCorrupt(t, "an older leaf is right", newDisk(t, 6).leaf(2, 4, pairsOf("a")).meta(2, 4).meta(3, 5))
	wantCorrupt(t, "the older one is empty", newDisk(t, 6).meta(0, 0).meta(3, 1))
	w := newWood()
	w.txids[7] = 10
	wantCorrupt(t, "a page deep below the younger one is wrong", w.lay(t).leaf(24, 8, pairsOf("a")).meta(24, 8))
}

func TestP11_1_RootIsALeaf(t *testing.T) {
	few := []api.Pair{{Key: "k", Value: ""}}
	d := newDisk(t, 4).leaf(3, 2, few).meta(3, 3)
	wantStore(t, "one small pair", d.Device, api.Survey{Meta: api.Meta{Pages: 4, Root: 3, Txid: 3}, Slot: 1, Depth: 1, Pages: []int{3}, Pairs: 1, Bytes: 1}, few)
	full := pairsOf("a", "b", "c", "d", "e")
	d = newDisk(t, 4).leaf(2, 2, full).meta(2, 2)
	wantStore(t, "a full leaf", d.Device, api.Survey{Meta: api.Meta{Pages: 4, Root: 2, Txid: 2}, Slot: 0, Depth: 1, Pages: []int{2}, Pairs: 5, Bytes: 3500}, full)
}

// twoLeaves is a branch in page 7 over the leaves 5 and 3.
func twoLeaves(t *testing.T) *disk {
	return newDisk(t, 8).meta(7, 6).leaf(5, 6, pairsOf("a", "b", "c")).leaf(3, 1, pairsOf("m", "n", "o")).
		branch(7, 6, api.Branch{First: 5, Links: []api.Link{{Key: "k", Child: 3}}})
}

func TestP11_1_Trees(t *testing.T) {
	all := pairsOf("a", "b", "c", "m", "n", "o")
	want := api.Survey{Meta: api.Meta{Pages: 8, Root: 7, Txid: 6}, Slot: 0, Depth: 2, Pages: []int{3, 5, 7}, Pairs: 6, Bytes: 4200}
	wantStore(t, "two leaves", twoLeaves(t).Device, want, all)
	w := newWood()
	all = nil
	size := 0
	for _, l := range w.leaves {
		all = append(all, l...)
		for _, p := range l {
			size += len(p.Key) + len(p.Value)
		}
	}
	want = api.Survey{Meta: w.meta, Slot: 1, Depth: 3, Pages: span(2, 22), Pairs: 54, Bytes: size}
	wantStore(t, "three levels", w.lay(t).Device, want, all)
	wantFine(t, "three levels, by the judge", w.lay(t))
}

func span(from, to int) []int {
	var l []int
	for i := from; i <= to; i++ {
		l = append(l, i)
	}
	return l
}

func TestP11_1_SizesThatMayNotBe(t *testing.T) {
	p, err := meta.Encode(api.Meta{Pages: 4, Root: 0, Txid: 0})
	if err != nil {
		t.Fatal(err)
	}
	for _, n := range []int{0, 1, 7, 8, 9, 31} {
		d := device.New(n)
		if n > 0 {
			_ = d.Write(0, p)
		}
		wantError(t, "too small", d, api.ErrCorrupt)
		if r, _, _ := d.Counts(); r != 0 {
			t.Errorf("%d sectors: %d were read", n, r)
		}
	}
	for _, n := range []int{32, 33, 39} {
		d := device.New(n)
		_ = d.Write(0, p)
		wantStore(t, "just large enough", d, api.Survey{Meta: api.Meta{Pages: 4}}, nil)
	}
}

func TestP11_1_TheGreatestDevice(t *testing.T) {
	d := &disk{device.New(api.MaxSectors), t, api.MaxPages}
	last := api.MaxPages - 1
	d.leaf(last, 1, pairsOf("a", "b", "c")).leaf(2, 1, pairsOf("m", "n", "o"))
	d.branch(77, 1, api.Branch{First: last, Links: []api.Link{{Key: "m", Child: 2}}}).meta(77, 1)
	want := api.Survey{Meta: api.Meta{Pages: api.MaxPages, Root: 77, Txid: 1}, Slot: 1, Depth: 2, Pages: []int{2, 77, last}, Pairs: 6, Bytes: 4200}
	wantStore(t, "eight million sectors", d.Device, want, pairsOf("a", "b", "c", "m", "n", "o"))
}

func TestP11_1_Dead(t *testing.T) {
	for what, d := range map[string]*disk{"a store": newWood().lay(t), "zeros": newDisk(t, 4), "an empty store": newDisk(t, 4).meta(0, 0), "a wrong tree": newDisk(t, 4).meta(2, 2)} {
		if err := d.Sync(); err != nil {
			t.Fatal(err)
		}
		d.Crash(nil)
		wantError(t, what+", dead", d.Device, api.ErrDead)
		d.Revive()
		wantAsJudged(t, what+", revived", d.Device)
	}
	for _, n := range []int{0, 8, 31} {
		d := device.New(n)
		d.Crash(nil)
		wantError(t, "too small and dead", d, api.ErrCorrupt)
	}
}

// What is read is what stands there, be it durable or pending.
func TestP11_1_Pending(t *testing.T) {
	d := newWood().lay(t)
	wantFine(t, "pending", d)
	if err := d.Sync(); err != nil {
		t.Fatal(err)
	}
	wantFine(t, "durable", d)
	d.leaf(7, 3, pairsOf("f1"))
	wantCorrupt(t, "a page that is too small is pending", d)
	d.Crash(nil)
	d.Revive()
	wantFine(t, "and lost", d)
}

func TestP11_2_PairsRise(t *testing.T) {
	l, err := walk.Content(newWood().lay(t).Device)
	if err != nil || len(l) != 54 {
		t.Fatalf("%d pairs, %v", len(l), err)
	}
	for i := range l[1:] {
		if l[i].Key >= l[i+1].Key {
			t.Errorf("%q stands ahead of %q", l[i].Key, l[i+1].Key)
		}
	}
	if l, err := walk.Content(newDisk(t, 4).meta(0, 0).Device); err != nil || len(l) != 0 {
		t.Errorf("an empty store: %d pairs, %v", len(l), err)
	}
}

func TestExamples(t *testing.T) {
	a := []api.Pair{{Key: "a", Value: "1"}}
	zeros := newDisk(t, 4)
	wantCorrupt(t, "all zeros", zeros)
	empty := newDisk(t, 4).meta(0, 0)
	wantStore(t, "M(0, 0)", empty.Device, api.Survey{Meta: api.Meta{Pages: 4}}, nil)
	one := newDisk(t, 4).meta(0, 0).meta(2, 1).leaf(2, 1, a)
	wantStore(t, "one leaf", one.Device, api.Survey{Meta: api.Meta{Pages: 4, Root: 2, Txid: 1}, Slot: 1, Depth: 1, Pages: []int{2}, Pairs: 1, Bytes: 2}, a)
	nothing := newDisk(t, 4).meta(0, 0).meta(2, 1)
	wantCorrupt(t, "nothing in page 2", nothing)
	younger := newDisk(t, 4).meta(2, 2).leaf(2, 3, a)
	wantCorrupt(t, "younger than its meta", younger)
	zero := newDisk(t, 4).meta(2, 2).leaf(2, 0, a)
	wantCorrupt(t, "transaction 0", zero)
	other := newDisk(t, 4).meta(2, 2).page(2, leafSheet(t, 3, 1, a))
	wantCorrupt(t, "another number", other)
	twice := newDisk(t, 4).meta(2, 2).leaf(3, 1, pairsOf("a", "b", "c")).page(2, rawBranch(t, 2, 1, []int{3, 3}, "b"))
	wantCorrupt(t, "the leaves 3 and 3", twice)
	for _, d := range []*disk{zeros, empty, one, nothing, younger, zero, other, twice} {
		d.Crash(nil)
		wantError(t, "dead", d.Device, api.ErrDead)
	}
	small := device.New(31)
	m, _ := meta.Encode(api.Meta{Pages: 4})
	_ = small.Write(0, m)
	wantError(t, "31 sectors", small, api.ErrCorrupt)
	small.Crash(nil)
	wantError(t, "31 sectors, dead", small, api.ErrCorrupt)
}

// A leaf's size and a branch's are held to the limits to the byte.
func TestP11_1_JustFullEnough(t *testing.T) {
	for _, more := range []int{0, -1} {
		w := newWood()
		w.leaves[3][1].Value = w.leaves[3][1].Value[:300]
		w.leaves[3][2].Value = ""
		rest := api.LeafMin + more - leaf.Size(w.leaves[3])
		w.leaves[3][2].Value = strings.Repeat("v", rest)
		if more == 0 {
			wantFine(t, "a leaf of LeafMin bytes", w.lay(t))
		} else {
			wantCorrupt(t, "a leaf of a byte less", w.lay(t))
		}
	}
	for _, more := range []int{0, -1} {
		w := newWood()
		// 8 links with 255 bytes each make 2102; 325 bytes less are BranchMin.
		for i, less := range []int{250, 75 - more} {
			k := &w.inner[0].Links[4+i].Key
			*k = (*k)[:255-less]
		}
		if more == 0 {
			wantFine(t, "a branch of BranchMin bytes", w.lay(t))
		} else {
			wantCorrupt(t, "a branch of a byte less", w.lay(t))
		}
	}
}

func TestP11_1_PagesRiseWhateverTheTreesOrder(t *testing.T) {
	s, err := walk.Survey(twoLeaves(t).Device)
	if err != nil || !slices.Equal(s.Pages, []int{3, 5, 7}) {
		t.Errorf("%v, %v", s.Pages, err)
	}
}
