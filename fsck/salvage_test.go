package fsck_test

import (
	"math"
	"slices"
	"strings"
	"testing"

	"copse/api"
	"copse/device"
	"copse/fsck"
	"copse/walk"
)

func TestP22_3_Refusals(t *testing.T) {
	for _, n := range []int{0, 8, 31} {
		for _, dead := range []bool{false, true} {
			d := device.New(n)
			if dead {
				d.Crash(nil)
			}
			if l, err := fsck.Salvage(d); len(l) != 0 || err != api.ErrCorrupt {
				t.Errorf("%d sectors, dead %v: %s, %v", n, dead, show(l), err)
			}
		}
	}
	for what, d := range map[string]*disk{"zeros": newDisk(t, 4), "a store": newWood().lay(t), "a leaf alone": newDisk(t, 4).leaf(2, 1, pairs("a", "1"))} {
		d.synced().Crash(nil)
		if l, err := fsck.Salvage(d.Device); len(l) != 0 || err != api.ErrDead {
			t.Errorf("%s, dead: %s, %v", what, show(l), err)
		}
	}
}

// A sound store's content is saved, and nothing else, whatever lies in the pages that its tree does not lead to.
func TestP22_3_Sound(t *testing.T) {
	for what, d := range map[string]*disk{
		"the wood":       newWood().lay(t).leaf(24, 9, pairs("a1", "other", "x", "1")),
		"a leaf":         newDisk(t, 6).meta(2, 2).leaf(2, 1, pairs("a", "1")).leaf(3, 2, pairs("a", "2", "b", "3")),
		"an empty store": newDisk(t, 6).meta(0, 2).leaf(2, 1, pairs("a", "1")),
		"a spoilt slot":  newDisk(t, 6).meta(2, 2).write(8, junk()).leaf(2, 1, pairs("a", "1")).leaf(3, 2, pairs("b", "3")),
	} {
		want, wantErr := walk.Content(d.Device)
		_, l := wantAsPlain(t, what, d.Device)
		if wantErr != nil || !slices.Equal(l, want) {
			t.Errorf("%s: %s; want %s, %v", what, show(l), show(want), wantErr)
		}
	}
}

// torn is a device that is not sound, with a meta of transaction 5, or without one, on which a test lays leaves from page 3 on.
func torn(t *testing.T, counts bool) *disk {
	d := newDisk(t, 12)
	if counts {
		d.meta(2, 5)
	}
	return d
}

func TestP22_3_WhereverTheLeavesLie(t *testing.T) {
	for _, counts := range []bool{true, false} {
		for id := 3; id < 12; id++ {
			wantSaved(t, "one leaf", torn(t, counts).leaf(id, 1, pairs("a", "1", "b", "")).Device, "a", "1", "b", "")
		}
		d := torn(t, counts)
		wantSaved(t, "none", d.Device)
		d.leaf(11, 1, pairs("c", "3")).leaf(3, 2, pairs("a", "1")).leaf(7, 3, pairs("b", "2"))
		wantSaved(t, "three leaves, pending", d.Device, "a", "1", "b", "2", "c", "3")
		wantSaved(t, "three leaves", d.synced().Device, "a", "1", "b", "2", "c", "3")
	}
	w := newWood()
	for spoilt, lost := range map[int][]int{22: nil, 20: nil, 21: nil, 5: {5}, 2: {2}, 19: {19}} {
		wantSaved(t, "the wood without a page", w.lay(t).write(8*spoilt, junk()).Device, asTexts(w.content(lost...))...)
	}
	d := &disk{device.New(8*4 + 7), t, 4} // sectors behind the last page are none
	wantSaved(t, "the last page", d.leaf(3, 1, pairs("a", "1")).Device, "a", "1")
	wantSaved(t, "page 2", newDisk(t, 4).leaf(2, 1, pairs("a", "1")).Device, "a", "1")
}

// Pages that are no leaves, or none that may be, count for nothing.
func TestP22_3_WhatIsNoLeaf(t *testing.T) {
	lay := func(s api.Sheet, at int) *disk {
		return torn(t, true).leaf(4, 1, pairs("x", "1")).page(at, s)
	}
	good := leafSheet(t, 7, 3, pairs("a", "1"))
	wantSaved(t, "a leaf", lay(good, 7).Device, "a", "1", "x", "1")
	wantSaved(t, "in another page", lay(good, 8).Device, "x", "1")
	for _, bit := range []int{0, 20, 60, 100, 140, 8 * 24, 8*4096 - 1} {
		d := lay(good, 7)
		p, err := d.Read(56, 8)
		must(t, err)
		p[bit/8] ^= 128 >> (bit % 8)
		wantSaved(t, "a bit is turned", d.write(56, p).Device, "x", "1")
	}
	for what, s := range map[string]api.Sheet{
		"a branch":              branchSheet(t, 7, 3, over([]int{5, 6}, "a")),
		"a leaf of kind branch": {Kind: api.KindBranch, ID: 7, Txid: 3, Count: good.Count, Body: good.Body},
		"another count":         {Kind: api.KindLeaf, ID: 7, Txid: 3, Count: 2, Body: good.Body},
		"a leaf of no pairs":    rawSheet(t, api.KindLeaf, 7, 3),
		"an empty key":          rawSheet(t, api.KindLeaf, 7, 3, pairCell("", "1"), pairCell("b", "1")),
		"a value too long":      rawSheet(t, api.KindLeaf, 7, 3, pairCell("a", strings.Repeat("v", 701))),
		"keys that don't rise":  rawSheet(t, api.KindLeaf, 7, 3, pairCell("b", "1"), pairCell("a", "1")),
		"a key twice":           rawSheet(t, api.KindLeaf, 7, 3, pairCell("b", "1"), pairCell("b", "2")),
	} {
		wantSaved(t, what, lay(s, 7).Device, "x", "1")
	}
}

func TestP22_3_Txids(t *testing.T) {
	for txid, saved := range map[uint64]bool{0: false, 1: true, 4: true, 5: true, 6: false, 1000: false, math.MaxUint64: false} {
		d := torn(t, true).leaf(3, 2, pairs("x", "1")).leaf(7, txid, pairs("a", "1"))
		if saved {
			wantSaved(t, "a leaf", d.Device, "a", "1", "x", "1")
		} else {
			wantSaved(t, "a leaf of another time", d.Device, "x", "1")
		}
	}
	for _, txid := range []uint64{1, 5, 6, 1000, math.MaxUint64} {
		d := torn(t, false).leaf(3, 2, pairs("x", "1")).leaf(7, txid, pairs("a", "1"))
		wantSaved(t, "a leaf, and no meta", d.Device, "a", "1", "x", "1")
		wantSaved(t, "a leaf, and spoilt slots", d.write(0, junk()).write(8, junk()).Device, "a", "1", "x", "1")
	}
	d := torn(t, false).leaf(3, 2, pairs("x", "1")).leaf(7, 0, pairs("a", "1"))
	wantSaved(t, "transaction 0, and no meta", d.Device, "x", "1")
	d = newDisk(t, 12).meta(2, 0).leaf(3, 1, pairs("x", "1")).leaf(7, 0, pairs("a", "1"))
	wantSaved(t, "a meta of transaction 0", d.Device)
	d = newDisk(t, 12).meta(2, 6).meta(2, 9).leaf(3, 7, pairs("x", "1")).leaf(7, 10, pairs("a", "1"))
	wantSaved(t, "the younger meta counts", d.Device, "x", "1")
	d = newDisk(t, 12).meta(2, math.MaxUint64).leaf(3, 7, pairs("x", "1")).leaf(7, math.MaxUint64, pairs("a", "1"))
	wantSaved(t, "the last transaction", d.Device, "a", "1", "x", "1")
}

// The pages of a tree that is wrong beside others: all are the same to Salvage.
func TestP22_3_InTheTreeAndOut(t *testing.T) {
	w := newWood()
	w.txids[5] = 10
	d := w.lay(t).leaf(24, 9, pairs("z", "out of the tree")).leaf(25, 8, pairs("d1", "older or younger"))
	l := w.content(5)
	l = append(l, pairs("d1", "older or younger", "z", "out of the tree")...)
	slices.SortFunc(l, func(a, b api.Pair) int { return strings.Compare(a.Key, b.Key) })
	wantSaved(t, "a page too young", d.Device, asTexts(l)...)
}

// Of a key that stands in several pages: the greatest transaction, and of several such the greatest number.
func TestP22_3_AKeyInSeveralPages(t *testing.T) {
	for _, counts := range []bool{true, false} {
		txids := []uint64{1, 3, 5}
		for _, a := range txids {
			for _, b := range txids {
				for _, c := range txids {
					d := torn(t, counts).leaf(3, a, pairs("k", "in 3")).leaf(6, b, pairs("k", "in 6")).leaf(11, c, pairs("k", "in 11"))
					want, best := "in 3", a
					if b >= best {
						want, best = "in 6", b
					}
					if c >= best {
						want = "in 11"
					}
					wantSaved(t, "a key in three pages", d.Device, "k", want)
				}
			}
		}
		d := torn(t, counts).leaf(3, 5, pairs("a", "3", "b", "3")).leaf(4, 4, pairs("b", "4", "c", "4", "d", "4")).leaf(5, 5, pairs("d", "5", "e", "5"))
		wantSaved(t, "key by key", d.Device, "a", "3", "b", "3", "c", "4", "d", "5", "e", "5")
	}
	d := torn(t, true).leaf(3, 6, pairs("k", "too young")).leaf(4, 4, pairs("k", "right")).leaf(5, 0, pairs("k", "of no time"))
	wantSaved(t, "pages that do not count", d.Device, "k", "right")
	d = torn(t, false).leaf(3, math.MaxUint64, pairs("k", "last")).leaf(4, math.MaxUint64-1, pairs("k", "not last")).leaf(5, 1<<63, pairs("k", "half"))
	wantSaved(t, "great numbers", d.Device, "k", "last")
}

func TestP22_3_PairsRise(t *testing.T) {
	d := torn(t, true)
	d.leaf(3, 1, pairs("\x00", "1", "a\x00", "2", "b", "3", "\xff\xff", "4"))
	d.leaf(9, 1, pairs("\x00\x00", "5", "A", "6", "a", "7", "a\x00b", "8", "\x80", "9", "\xff", ""))
	wantSaved(t, "byte by byte", d.Device, "\x00", "1", "\x00\x00", "5", "A", "6", "a", "7", "a\x00", "2", "a\x00b", "8", "b", "3", "\x80", "9", "\xff", "", "\xff\xff", "4")
}
