package fsck_test

import (
	"encoding/binary"
	"slices"
	"strings"
	"testing"

	"copse/api"
	"copse/branch"
	"copse/cells"
	"copse/device"
	"copse/leaf"
	"copse/sheet"
)

// disk is a device on which a test lays its pages by hand.
type disk struct {
	*device.Device
	t     *testing.T
	pages int
}

func newDisk(t *testing.T, pages int) *disk { return &disk{device.New(8 * pages), t, pages} }

func (d *disk) write(sector int, p []byte) *disk {
	d.t.Helper()
	must(d.t, d.Write(sector, p))
	return d
}

func (d *disk) meta(root int, txid uint64) *disk {
	d.t.Helper()
	return d.write(int(8*(txid%2)), plainMeta(d.pages, root, txid))
}

// page lays a sheet into the page of that number, which may be another one's.
func (d *disk) page(at int, s api.Sheet) *disk {
	d.t.Helper()
	p, err := sheet.Seal(s)
	must(d.t, err)
	return d.write(8*at, p)
}

func (d *disk) leaf(id int, txid uint64, l []api.Pair) *disk {
	d.t.Helper()
	return d.page(id, leafSheet(d.t, id, txid, l))
}

func (d *disk) branch(id int, txid uint64, b api.Branch) *disk {
	d.t.Helper()
	return d.page(id, branchSheet(d.t, id, txid, b))
}

// synced makes all durable.
func (d *disk) synced() *disk {
	d.t.Helper()
	must(d.t, d.Sync())
	return d
}

func leafSheet(t *testing.T, id int, txid uint64, l []api.Pair) api.Sheet {
	t.Helper()
	body, err := leaf.Encode(l)
	must(t, err)
	return api.Sheet{Kind: api.KindLeaf, ID: id, Txid: txid, Count: len(l), Body: body}
}

func branchSheet(t *testing.T, id int, txid uint64, b api.Branch) api.Sheet {
	t.Helper()
	body, err := branch.Encode(b)
	must(t, err)
	return api.Sheet{Kind: api.KindBranch, ID: id, Txid: txid, Count: len(b.Links) + 1, Body: body}
}

// rawSheet is a page of any cells.
func rawSheet(t *testing.T, kind, id int, txid uint64, l ...string) api.Sheet {
	t.Helper()
	body, err := cells.Lay(l)
	must(t, err)
	return api.Sheet{Kind: kind, ID: id, Txid: txid, Count: len(l), Body: body}
}

// pairCell is the cell of any pair, linkCell that of any link (of the first child: without a key).
func pairCell(key, value string) string {
	return string([]byte{byte(len(key)), byte(len(value) >> 8), byte(len(value))}) + key + value
}

func linkCell(key string, child int) string {
	number := string(binary.BigEndian.AppendUint32(nil, uint32(child)))
	if key == "" {
		return number
	}
	return string([]byte{byte(len(key))}) + key + number
}

// pairs are of keys and values, in turns.
func pairs(texts ...string) []api.Pair {
	var l []api.Pair
	for i := 0; i+1 < len(texts); i += 2 {
		l = append(l, api.Pair{Key: texts[i], Value: texts[i+1]})
	}
	return l
}

// big are pairs of 700 bytes of key and value each: three of them are enough for a leaf, and five have room in one.
func big(keys ...string) []api.Pair {
	var l []api.Pair
	for _, k := range keys {
		l = append(l, api.Pair{Key: k, Value: strings.Repeat("v", 700-len(k))})
	}
	return l
}

// over is a branch over these children, with these keys between them.
func over(kids []int, keys ...string) api.Branch {
	b := api.Branch{First: kids[0]}
	for i, k := range keys {
		b.Links = append(b.Links, api.Link{Key: k, Child: kids[i+1]})
	}
	return b
}

// long is a key of 255 bytes that begins with a word: seven of them are enough for a branch.
func long(word string) string { return word + strings.Repeat("0", api.MaxKey-len(word)) }

// wood is a right tree of three levels, to be changed at one place ahead of being laid: root 22 over the branches 20 and 21 over nine leaves each, 2 to 10 and 11 to 19. The leaf i (from 0 on) has a letter c, from a to r, and the keys c1, c2 and c5; its link's key is c000.. of 255 bytes; the root's link is the letter j.
type wood struct {
	pages  int
	meta   api.Meta
	leaves [18][]api.Pair
	inner  [2]api.Branch
	top    api.Branch
	txids  map[int]uint64
}

func letter(i int) string { return string(rune('a' + i)) }

func newWood() *wood {
	w := &wood{pages: 26, meta: api.Meta{Pages: 26, Root: 22, Txid: 9}, txids: map[int]uint64{}}
	for i := range w.leaves {
		w.leaves[i] = big(letter(i)+"1", letter(i)+"2", letter(i)+"5")
		if i%9 == 0 {
			w.inner[i/9].First = 2 + i
		} else {
			w.inner[i/9].Links = append(w.inner[i/9].Links, api.Link{Key: long(letter(i)), Child: 2 + i})
		}
	}
	w.top = over([]int{20, 21}, "j")
	for id := 2; id <= 22; id++ {
		w.txids[id] = uint64(1 + id%9)
	}
	return w
}

func (w *wood) sheets(t *testing.T) []api.Sheet {
	t.Helper()
	var l []api.Sheet
	for i, p := range w.leaves {
		l = append(l, leafSheet(t, 2+i, w.txids[2+i], p))
	}
	for i, b := range w.inner {
		l = append(l, branchSheet(t, 20+i, w.txids[20+i], b))
	}
	return append(l, branchSheet(t, 22, w.txids[22], w.top))
}

func (w *wood) lay(t *testing.T) *disk {
	t.Helper()
	d := newDisk(t, w.pages)
	for _, s := range w.sheets(t) {
		d.page(s.ID, s)
	}
	return d.meta(w.meta.Root, w.meta.Txid).synced()
}

// content is all pairs of the wood's leaves, but those in some pages.
func (w *wood) content(but ...int) []api.Pair {
	var all []api.Pair
	for i, l := range w.leaves {
		if !slices.Contains(but, 2+i) {
			all = append(all, l...)
		}
	}
	return all
}
