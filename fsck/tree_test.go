package fsck_test

import (
	"slices"
	"strings"
	"testing"

	"copse/api"
	"copse/leaf"
)

// each is a finding for each of the pages from one to another.
func each(from, to, what int) []int {
	var l []int
	for id := from; id <= to; id++ {
		l = append(l, id, what)
	}
	return l
}

func TestP22_1_RightTrees(t *testing.T) {
	wantFound(t, "the wood", newWood().lay(t).Device, true)
	wantFound(t, "a leaf", newDisk(t, 4).meta(3, 1).leaf(3, 1, pairs("k", "")).Device, true)
	for _, id := range []int{2, 25} {
		w := newWood()
		w.meta.Root = id
		wantFound(t, "another root", w.lay(t).leaf(id, 9, big("z")).Device, true)
	}
}

// Rule 2: the number of a page.
func TestP22_1_Bounds(t *testing.T) {
	for _, id := range []int{26, 27, 1000, api.MaxPages - 1} {
		w := newWood()
		w.inner[1].Links[3].Child = id
		wantFound(t, "a leaf above the pages", w.lay(t).Device, false, id, api.FindBounds)
		w = newWood()
		w.inner[0].First = id
		wantFound(t, "the first leaf above the pages", w.lay(t).Device, false, id, api.FindBounds)
		w = newWood()
		w.top.Links[0].Child = id
		wantFound(t, "a branch above the pages", w.lay(t).Device, false, id, api.FindBounds)
	}
	w := newWood()
	w.inner[1].Links[3].Child = 25
	wantFound(t, "the last page, with nothing in it", w.lay(t).Device, false, 25, api.FindPage)
	wantFound(t, "the last page, with the leaf", w.lay(t).leaf(25, 9, w.leaves[13]).Device, true)
	w.meta.Pages, w.pages = 25, 25
	d := newDisk(t, 25)
	for _, s := range w.sheets(t) {
		d.page(s.ID, s)
	}
	wantFound(t, "a device of a page less", d.meta(22, 9).Device, false, 25, api.FindBounds)
}

// What was beyond rule 2 does not count as visited.
func TestP22_1_BoundsAgain(t *testing.T) {
	w := newWood()
	w.inner[0].Links[2].Child, w.inner[1].Links[4].Child, w.top.Links = 30, 30, append(w.top.Links, api.Link{Key: "x", Child: 30})
	wantFound(t, "three times above the pages", w.lay(t).Device, false, 30, api.FindBounds, 30, api.FindBounds, 30, api.FindBounds)
}

// Rule 3: a page that was visited.
func TestP22_1_Twice(t *testing.T) {
	for _, id := range []int{2, 5, 10, 20, 21, 22} {
		w := newWood()
		w.inner[1].Links[7].Child = id
		wantFound(t, "the last leaf's link leads elsewhere", w.lay(t).Device, false, id, api.FindTwice)
	}
	w := newWood()
	w.inner[0].First = 19
	wantFound(t, "the first one is the last one, too", w.lay(t).Device, false, 19, api.FindOrder, 19, api.FindTwice)
	d := newDisk(t, 4).meta(2, 1).branch(2, 1, over([]int{2, 3}, "m")).leaf(3, 1, big("m", "n", "o"))
	wantFound(t, "the root under itself", d.Device, false, 2, api.FindTwice)
	d.branch(2, 1, over([]int{3, 2}, "m"))
	wantFound(t, "the root behind its leaf", d.Device, false, 3, api.FindOrder, 2, api.FindTwice)
	d = newDisk(t, 4).meta(2, 1).branch(2, 1, over([]int{3, 2}, "m")).branch(3, 1, over([]int{2, 3}, "a"))
	wantFound(t, "a ring", d.Device, false, 3, api.FindFill, 2, api.FindTwice, 3, api.FindTwice, 2, api.FindTwice)
}

// A page that has another finding was visited all the same.
func TestP22_1_TwiceBehindAFinding(t *testing.T) {
	w := newWood()
	w.inner[0].Links[1].Child, w.inner[1].Links[6].Child = 24, 24
	wantFound(t, "nothing in it", w.lay(t).Device, false, 24, api.FindPage, 24, api.FindTwice)
	wantFound(t, "no node in it", w.lay(t).page(24, rawSheet(t, api.KindLeaf, 24, 3)).Device, false, 24, api.FindNode, 24, api.FindTwice)
	d := w.lay(t).leaf(24, 10, pairs("z", ""))
	wantFound(t, "a leaf that is wrong", d.Device, false, 24, api.FindTxid, 24, api.FindFill, 24, api.FindOrder, 24, api.FindTwice)
}

// Rule 4: what sheet.Load refuses.
func TestP22_1_Pages(t *testing.T) {
	for _, id := range []int{2, 5, 10, 11, 14, 19, 20, 21, 22} {
		for _, bit := range []int{0, 9, 17, 40, 100, 150, 170, 200, 8 * 300, 8*4096 - 1} {
			d := newWood().lay(t)
			p, err := d.Read(8*id, 8)
			must(t, err)
			p[bit/8] ^= 128 >> (bit % 8)
			wantFound(t, "a bit is turned", d.write(8*id, p).Device, false, id, api.FindPage)
		}
		d := newWood().lay(t)
		wantFound(t, "the page is gone", d.write(8*id, make([]byte, 4096)).Device, false, id, api.FindPage)
		d = newWood().lay(t)
		wantFound(t, "its first sector is gone", d.write(8*id, make([]byte, 512)).Device, false, id, api.FindPage)
		w := newWood()
		s := w.sheets(t)[id-2]
		s.ID = 24
		wantFound(t, "it says another number", w.lay(t).page(id, s).Device, false, id, api.FindPage)
	}
}

// Beneath a page that is refused nothing is looked at, but beside it all is.
func TestP22_1_PagesBeside(t *testing.T) {
	first, second := each(2, 10, api.FindPage), each(11, 19, api.FindPage)
	for id, want := range map[int][]int{20: slices.Concat([]int{20, api.FindPage}, second), 21: slices.Concat(first, []int{21, api.FindPage}), 22: {22, api.FindPage}} {
		d := newWood().lay(t).write(8*id, junk())
		for i := 2; i <= 19; i++ {
			d.write(8*i, junk())
		}
		wantFound(t, "a branch and all leaves", d.Device, false, want...)
	}
}

// Rule 5: what leaf.Decode or branch.Decode refuses. Nothing else is told of such a page, also where its transaction is too late.
func TestP22_1_Nodes(t *testing.T) {
	lay := func(id int, s func(id int, txid uint64) api.Sheet) *disk {
		return newWood().lay(t).page(id, s(id, 10))
	}
	for what, s := range map[string]func(id int, txid uint64) api.Sheet{
		"a leaf of no pairs": func(id int, txid uint64) api.Sheet { return rawSheet(t, api.KindLeaf, id, txid) },
		"an empty key":       func(id int, txid uint64) api.Sheet { return rawSheet(t, api.KindLeaf, id, txid, pairCell("", "1")) },
		"a value of 701 bytes": func(id int, txid uint64) api.Sheet {
			return rawSheet(t, api.KindLeaf, id, txid, pairCell("a", strings.Repeat("v", 701)))
		},
		"keys that do not rise": func(id int, txid uint64) api.Sheet {
			return rawSheet(t, api.KindLeaf, id, txid, pairCell("b", ""), pairCell("a", ""))
		},
		"a key twice": func(id int, txid uint64) api.Sheet {
			return rawSheet(t, api.KindLeaf, id, txid, pairCell("a", ""), pairCell("a", ""))
		},
		"cells of a branch": func(id int, txid uint64) api.Sheet {
			return rawSheet(t, api.KindLeaf, id, txid, linkCell("", 5), linkCell("m", 6))
		},
		"a branch without links": func(id int, txid uint64) api.Sheet { return rawSheet(t, api.KindBranch, id, txid, linkCell("", 5)) },
		"a branch of twins": func(id int, txid uint64) api.Sheet {
			return rawSheet(t, api.KindBranch, id, txid, linkCell("", 5), linkCell("m", 5))
		},
		"a branch over page 1": func(id int, txid uint64) api.Sheet {
			return rawSheet(t, api.KindBranch, id, txid, linkCell("", 5), linkCell("m", 1))
		},
		"a branch above MaxPages": func(id int, txid uint64) api.Sheet {
			return rawSheet(t, api.KindBranch, id, txid, linkCell("", api.MaxPages), linkCell("m", 5))
		},
		"links that do not rise": func(id int, txid uint64) api.Sheet {
			return rawSheet(t, api.KindBranch, id, txid, linkCell("", 5), linkCell("m", 6), linkCell("c", 7))
		},
		"cells of a leaf": func(id int, txid uint64) api.Sheet {
			return rawSheet(t, api.KindBranch, id, txid, pairCell("a", "1"), pairCell("b", "1"))
		},
		"a branch without a child": func(id int, txid uint64) api.Sheet { return rawSheet(t, api.KindBranch, id, txid) },
		"another count": func(id int, txid uint64) api.Sheet {
			s := leafSheet(t, id, txid, big("a", "b", "c"))
			s.Count++
			return s
		},
		"a byte behind the cells": func(id int, txid uint64) api.Sheet {
			s := leafSheet(t, id, txid, big("a", "b", "c"))
			s.Body = s.Body[:4071] + "x"
			return s
		},
	} {
		for _, id := range []int{2, 5, 14, 19, 20, 21, 22} {
			wantFound(t, what, lay(id, s).Device, false, id, api.FindNode)
		}
	}
}

// Rule 6: the transaction.
func TestP22_1_Txids(t *testing.T) {
	for _, id := range []int{2, 5, 14, 19, 20, 21, 22} {
		for _, last := range []uint64{9, 10, 1000, 1<<64 - 1} {
			for _, txid := range []uint64{0, 1, last - 1, last, last + 1, 1<<64 - 1} {
				w := newWood()
				w.meta.Txid, w.txids[id] = last, txid
				d := w.lay(t)
				if txid >= 1 && txid <= last {
					wantFound(t, "a right transaction", d.Device, true)
				} else {
					wantFound(t, "a wrong transaction", d.Device, false, id, api.FindTxid)
				}
			}
		}
	}
	wantFound(t, "a meta of transaction 0", newDisk(t, 4).meta(2, 0).leaf(2, 0, big("a")).Device, false, 2, api.FindTxid)
	wantFound(t, "and a page of 1", newDisk(t, 4).meta(2, 0).leaf(2, 1, big("a")).Device, false, 2, api.FindTxid)
}

// sizedLeaf is the pairs of a leaf, with keys that begin with a letter, that take so many bytes.
func sizedLeaf(letter string, size int) []api.Pair {
	l := big(letter+"1", letter+"2")
	last := size - leaf.Size(l) - 5 - 2
	return append(l, api.Pair{Key: letter + "5", Value: strings.Repeat("v", last)})
}

// Rule 7: how full it is.
func TestP22_1_Fill(t *testing.T) {
	for _, i := range []int{0, 4, 9, 17} {
		for size, sound := range map[int]bool{api.LeafMin: true, api.LeafMin + 1: true, api.LeafMin - 1: false, 1419: false} {
			w := newWood()
			w.leaves[i] = sizedLeaf(letter(i), size)
			if sound {
				wantFound(t, "a leaf that is full enough", w.lay(t).Device, true)
			} else {
				wantFound(t, "a leaf that is not", w.lay(t).Device, false, 2+i, api.FindFill)
			}
		}
	}
	for i := range 2 {
		for less, sound := range map[int]bool{324: true, 325: true, 326: false} {
			w := newWood()
			for j := range w.inner[i].Links { // eight links of 255 bytes are 2102 bytes: 325 less are BranchMin
				k := &w.inner[i].Links[j].Key
				cut := min(less, 250)
				*k, less = (*k)[:len(*k)-cut], less-cut
			}
			if sound {
				wantFound(t, "a branch that is full enough", w.lay(t).Device, true)
			} else {
				wantFound(t, "a branch that is not", w.lay(t).Device, false, 20+i, api.FindFill)
			}
		}
	}
}

// The root may be as empty as it likes, but the root alone.
func TestP22_1_FillOfTheRoot(t *testing.T) {
	d := newDisk(t, 8).meta(7, 1).leaf(7, 1, pairs("a", ""))
	wantFound(t, "a leaf", d.Device, true)
	d = newDisk(t, 8).meta(7, 1).branch(7, 1, over([]int{2, 3}, "m")).leaf(2, 1, big("a", "b", "c")).leaf(3, 1, big("m", "n", "o"))
	wantFound(t, "a branch", d.Device, true)
	d.branch(5, 1, over([]int{7, 6}, "t")).leaf(6, 1, big("t", "u", "v")).meta(5, 1)
	wantFound(t, "that branch, not as the root", d.Device, false, 7, api.FindFill, 6, api.FindKind)
	d.leaf(3, 1, pairs("m", ""))
	wantFound(t, "and a leaf beneath", d.Device, false, 7, api.FindFill, 3, api.FindFill, 6, api.FindKind)
	d.meta(3, 1)
	wantFound(t, "that leaf as the root", d.Device, true)
}

// Several findings at one page come in the order of the rules, and those of what is beneath it behind them.
func TestP22_1_SeveralAtOnePage(t *testing.T) {
	w := newWood()
	w.top.First = 24
	small := pairs("~", "")
	four := []int{24, api.FindTxid, 24, api.FindFill, 24, api.FindOrder}
	wantFound(t, "a leaf, the first one", w.lay(t).leaf(24, 10, small).Device, false, append(four, each(11, 19, api.FindKind)...)...)
	w = newWood()
	w.top = over([]int{20, 24, 21}, "j", "j0")
	wantFound(t, "a leaf, not the first one", w.lay(t).leaf(24, 0, small).Device, false, append(four, 24, api.FindKind)...)
	w = newWood()
	w.inner[1] = over([]int{11, 12}, "b")
	w.txids[21], w.txids[12] = 0, 10
	wantFound(t, "a branch", w.lay(t).Device, false, 21, api.FindTxid, 21, api.FindFill, 21, api.FindOrder, 11, api.FindOrder, 12, api.FindTxid)
	w.top.Links[0].Key, w.txids[22] = "k", 11
	wantFound(t, "and at the root", w.lay(t).Device, false, 22, api.FindTxid, 21, api.FindTxid, 21, api.FindFill, 21, api.FindOrder, 11, api.FindOrder, 12, api.FindTxid)
}

// Rule 9: the depth of a leaf.
func TestP22_1_Kinds(t *testing.T) {
	w := newWood()
	w.top.Links[0].Child = 11
	wantFound(t, "a leaf beside a branch", w.lay(t).Device, false, 11, api.FindKind)
	w = newWood()
	w.top = over([]int{11, 20}, "a")
	wantFound(t, "a leaf ahead of a branch", w.lay(t).Device, false, append([]int{11, api.FindOrder}, each(2, 10, api.FindKind)...)...)
	w = newWood()
	w.top = over([]int{20, 24, 21}, "j", "j1")
	deep := w.lay(t).branch(24, 1, over([]int{23, 25}, "j05")).leaf(23, 1, big("j", "j01", "j02")).leaf(25, 1, big("j05", "j06", "j07"))
	wantFound(t, "leaves under another branch, at the same depth", deep.Device, false, 24, api.FindFill)
	w.inner[0].Links[7].Child = 24
	w.top = over([]int{20, 21}, "j")
	deep = w.lay(t).branch(24, 1, over([]int{23, 25}, "i2")).leaf(23, 1, big("i1")).leaf(25, 1, big("i2", "i3"))
	wantFound(t, "leaves that are too deep", deep.Device, false, 24, api.FindFill, 23, api.FindFill, 23, api.FindKind, 25, api.FindFill, 25, api.FindKind)
}

// The first leaf that counts for the depth is the first one that is a leaf that may be, whatever else is wrong with it.
func TestP22_1_FirstLeaf(t *testing.T) {
	w := newWood()
	w.top = over([]int{24, 20}, "a")
	wantFound(t, "nothing in it", w.lay(t).Device, false, 24, api.FindPage)
	wantFound(t, "no leaf in it", w.lay(t).page(24, rawSheet(t, api.KindLeaf, 24, 1)).Device, false, 24, api.FindNode)
	wantFound(t, "a leaf that is twice", w.lay(t).branch(22, 1, over([]int{22, 20}, "a")).Device, false, 22, api.FindTwice)
	beneath := each(2, 10, api.FindKind)
	wantFound(t, "a leaf that is too young", w.lay(t).leaf(24, 10, big("A", "B", "C")).Device, false, append([]int{24, api.FindTxid}, beneath...)...)
	wantFound(t, "a leaf that is too small", w.lay(t).leaf(24, 1, big("A")).Device, false, append([]int{24, api.FindFill}, beneath...)...)
	wantFound(t, "a leaf with keys out of their place", w.lay(t).leaf(24, 1, big("A", "B", "a")).Device, false, append([]int{24, api.FindOrder}, beneath...)...)
	wantFound(t, "a right leaf", w.lay(t).leaf(24, 1, big("A", "B", "C")).Device, false, beneath...)
}
