package walk_test

import (
	"fmt"
	"reflect"
	"slices"
	"strings"
	"testing"

	"copse/api"
	"copse/branch"
	"copse/device"
	"copse/leaf"
	"copse/meta"
	"copse/sheet"
	"copse/walk"
)

// disk is a device on which a test lays its pages by hand.
type disk struct {
	*device.Device
	t     *testing.T
	pages int
}

func newDisk(t *testing.T, pages int) *disk {
	return &disk{device.New(8 * pages), t, pages}
}

func (d *disk) write(sector int, p []byte) *disk {
	d.t.Helper()
	if err := d.Write(sector, p); err != nil {
		d.t.Fatal(err)
	}
	return d
}

func (d *disk) meta(root int, txid uint64) *disk {
	d.t.Helper()
	if err := meta.Store(d.Device, api.Meta{Pages: d.pages, Root: root, Txid: txid}); err != nil {
		d.t.Fatal(err)
	}
	return d
}

// page lays a sheet into the page of that number, which may be another one's.
func (d *disk) page(at int, s api.Sheet) *disk {
	d.t.Helper()
	p, err := sheet.Seal(s)
	if err != nil {
		d.t.Fatal(err)
	}
	return d.write(8*at, p)
}

func (d *disk) leaf(id int, txid uint64, l []api.Pair) *disk {
	d.t.Helper()
	return d.page(id, leafSheet(d.t, id, txid, l))
}

func (d *disk) branch(id int, txid uint64, b api.Branch) *disk {
	d.t.Helper()
	return d.page(id, branchSheet(d.t, id, txid, b))
}

func leafSheet(t *testing.T, id int, txid uint64, l []api.Pair) api.Sheet {
	t.Helper()
	body, err := leaf.Encode(l)
	if err != nil {
		t.Fatal(err)
	}
	return api.Sheet{Kind: api.KindLeaf, ID: id, Txid: txid, Count: len(l), Body: body}
}

func branchSheet(t *testing.T, id int, txid uint64, b api.Branch) api.Sheet {
	t.Helper()
	body, err := branch.Encode(b)
	if err != nil {
		t.Fatal(err)
	}
	return api.Sheet{Kind: api.KindBranch, ID: id, Txid: txid, Count: len(b.Links) + 1, Body: body}
}

// long is a key of 255 bytes that begins with a word, and pairOf a pair of 700 bytes of key and value: three of them make a leaf.
func long(word string) string {
	return word + strings.Repeat("~", api.MaxKey-len(word))
}

func pairOf(key string) api.Pair {
	return api.Pair{Key: key, Value: strings.Repeat("v", 700-len(key))}
}

func pairsOf(keys ...string) []api.Pair {
	var l []api.Pair
	for _, k := range keys {
		l = append(l, pairOf(k))
	}
	return l
}

// wood is a right tree of three levels, to be changed at one place ahead of being laid: root 22 over the branches 20 and 21 over nine leaves each, 2 to 10 and 11 to 19. The leaf i (from 0 on) has a letter c, from a to r, and the keys c1, c2 and c555.. of 255 bytes; its link's key is c000.. of 255 bytes; the root's link is the letter j.
type wood struct {
	pages  int
	meta   api.Meta
	leaves [18][]api.Pair
	inner  [2]api.Branch
	top    api.Branch
	txids  map[int]uint64
}

func letter(i int) string { return string(rune('a' + i)) }

// linkKey is the key of the link to the leaf i, lastKey the last one in it.
func linkKey(i int) string { return letter(i) + strings.Repeat("0", 254) }
func lastKey(i int) string { return letter(i) + strings.Repeat("5", 254) }

func newWood() *wood {
	w := &wood{pages: 26, meta: api.Meta{Pages: 26, Root: 22, Txid: 9}, txids: map[int]uint64{}}
	for i := range w.leaves {
		w.leaves[i] = pairsOf(letter(i)+"1", letter(i)+"2", lastKey(i))
		if i%9 == 0 {
			w.inner[i/9].First = 2 + i
		} else {
			w.inner[i/9].Links = append(w.inner[i/9].Links, api.Link{Key: linkKey(i), Child: 2 + i})
		}
	}
	w.top = api.Branch{First: 20, Links: []api.Link{{Key: "j", Child: 21}}}
	for id := 2; id <= 22; id++ {
		w.txids[id] = uint64(1 + id%9)
	}
	return w
}

func (w *wood) sheets(t *testing.T) []api.Sheet {
	t.Helper()
	var l []api.Sheet
	for i, p := range w.leaves {
		l = append(l, leafSheet(t, 2+i, w.txids[2+i], p))
	}
	for i, b := range w.inner {
		l = append(l, branchSheet(t, 20+i, w.txids[20+i], b))
	}
	return append(l, branchSheet(t, 22, w.txids[22], w.top))
}

func (w *wood) lay(t *testing.T) *disk {
	t.Helper()
	d := newDisk(t, w.pages)
	for _, s := range w.sheets(t) {
		d.page(s.ID, s)
	}
	return d.meta(w.meta.Root, w.meta.Txid)
}

// bound is what a branch asks of all keys beneath one of its children.
type bound struct {
	low, high  string
	from, upto bool
}

func (b bound) right(key string) bool {
	return !(b.from && key < b.low) && !(b.upto && key >= b.high)
}

// spot is a page of a tree: the way to it by the children's numbers, and what all branches on the way ask of its keys.
type spot struct {
	id     int
	way    []int
	bounds []bound
	pairs  []api.Pair
	node   api.Branch
	leaf   bool
}

// judged is what a device is by the chapter's words: all pages first, one level behind the other, then one condition behind the other.
func judged(d *device.Device) (api.Survey, []api.Pair, error) {
	pages := d.Size() / 8
	if pages < 4 || pages > 1048576 {
		return api.Survey{}, nil, api.ErrCorrupt
	}
	if d.Dead() {
		return api.Survey{}, nil, api.ErrDead
	}
	m, found := judgedMeta(d, pages)
	if !found {
		return api.Survey{}, nil, api.ErrCorrupt
	}
	s := api.Survey{Meta: m, Slot: int(m.Txid % 2)}
	if m.Root == 0 {
		return s, nil, nil
	}
	spots, right := judgedSpots(d, m)
	if !right || !judgedKeys(spots) {
		return api.Survey{}, nil, api.ErrCorrupt
	}
	return judgedSurvey(s, spots)
}

func judgedMeta(d *device.Device, pages int) (api.Meta, bool) {
	var best api.Meta
	found := false
	for slot := range 2 {
		p, _ := d.Read(8*slot, 1)
		m, err := meta.Decode(p, pages, slot)
		if err == nil && (!found || m.Txid > best.Txid) {
			best, found = m, true
		}
	}
	return best, found
}

// judgedSpots is all pages of the tree and whether each, alone, is right (conditions 1 to 5).
func judgedSpots(d *device.Device, m api.Meta) ([]spot, bool) {
	all := []spot{{id: m.Root}}
	met := map[int]bool{}
	for i := 0; i < len(all); i++ {
		s := &all[i]
		if s.id < 2 || s.id > m.Pages-1 || met[s.id] {
			return nil, false
		}
		met[s.id] = true
		p, _ := d.Read(8*s.id, 8)
		page, err := sheet.Read(p, s.id)
		if err != nil || page.Txid < 1 || page.Txid > m.Txid {
			return nil, false
		}
		s.leaf = page.Kind == api.KindLeaf
		if s.leaf {
			s.pairs, err = leaf.Decode(page.Count, page.Body)
			if err != nil || leaf.Check(s.pairs, s.id == m.Root) != nil {
				return nil, false
			}
			continue
		}
		s.node, err = branch.Decode(page.Count, page.Body)
		if err != nil || branch.Check(s.node, s.id == m.Root) != nil {
			return nil, false
		}
		all = append(all, kidsOf(*s)...)
	}
	return all, true
}

func kidsOf(s spot) []spot {
	var l []spot
	for i := range len(s.node.Links) + 1 {
		b := bound{}
		id := s.node.First
		if i > 0 {
			b.low, b.from = s.node.Links[i-1].Key, true
			id = s.node.Links[i-1].Child
		}
		if i < len(s.node.Links) {
			b.high, b.upto = s.node.Links[i].Key, true
		}
		l = append(l, spot{id: id, way: append(slices.Clone(s.way), i), bounds: append(slices.Clone(s.bounds), b)})
	}
	return l
}

func judgedKeys(spots []spot) bool {
	for _, s := range spots {
		var keys []string
		for _, p := range s.pairs {
			keys = append(keys, p.Key)
		}
		for _, l := range s.node.Links {
			keys = append(keys, l.Key)
		}
		for _, k := range keys {
			if slices.ContainsFunc(s.bounds, func(b bound) bool { return !b.right(k) }) {
				return false
			}
		}
	}
	return true
}

func judgedSurvey(s api.Survey, spots []spot) (api.Survey, []api.Pair, error) {
	slices.SortFunc(spots, func(a, b spot) int { return slices.Compare(a.way, b.way) })
	depths := map[int]bool{}
	var pairs []api.Pair
	for _, p := range spots {
		s.Pages = append(s.Pages, p.id)
		if !p.leaf {
			continue
		}
		s.Depth = len(p.way) + 1
		depths[s.Depth] = true
		for _, q := range p.pairs {
			s.Bytes += len(q.Key) + len(q.Value)
		}
		pairs = append(pairs, p.pairs...)
	}
	if len(depths) != 1 || s.Depth > 8 {
		return api.Survey{}, nil, api.ErrCorrupt
	}
	slices.Sort(s.Pages)
	s.Pairs = len(pairs)
	return s, pairs, nil
}

func samePairs(a, b []api.Pair) bool { return slices.Equal(a, b) }

func sameSurvey(a, b api.Survey) bool {
	x, y := a, b
	x.Pages, y.Pages = nil, nil
	return reflect.DeepEqual(x, y) && slices.Equal(a.Pages, b.Pages)
}

func short(s api.Survey) string {
	return fmt.Sprintf("meta %v, slot %d, depth %d, pages %v, pairs %d, bytes %d", s.Meta, s.Slot, s.Depth, s.Pages, s.Pairs, s.Bytes)
}

// wantStore wants just this survey and these pairs.
func wantStore(t *testing.T, what string, d *device.Device, s api.Survey, l []api.Pair) {
	t.Helper()
	got, err := walk.Survey(d)
	if err != nil || !sameSurvey(got, s) {
		t.Errorf("%s: Survey: %s, %v; want %s", what, short(got), err, short(s))
	}
	pairs, err := walk.Content(d)
	if err != nil || !samePairs(pairs, l) {
		t.Errorf("%s: Content: %d pairs, %v; want %d", what, len(pairs), err, len(l))
	}
}

// wantError wants that both tell it, and nothing beside it.
func wantError(t *testing.T, what string, d *device.Device, want error) {
	t.Helper()
	s, err := walk.Survey(d)
	if err != want || !reflect.DeepEqual(s, api.Survey{}) {
		t.Errorf("%s: Survey: %s, %v; want %v", what, short(s), err, want)
	}
	l, err := walk.Content(d)
	if err != want || len(l) != 0 {
		t.Errorf("%s: Content: %d pairs, %v; want %v", what, len(l), err, want)
	}
}

func wantCorrupt(t *testing.T, what string, d *disk) {
	t.Helper()
	if _, _, err := judged(d.Device); err != api.ErrCorrupt {
		t.Fatalf("%s: the test's own judge says %v", what, err)
	}
	wantError(t, what, d.Device, api.ErrCorrupt)
}

// wantAsJudged wants of both what the chapter's words say of the device, and says whether it is a store.
func wantAsJudged(t *testing.T, what string, d *device.Device) bool {
	t.Helper()
	s, l, err := judged(d)
	if err != nil {
		wantError(t, what, d, err)
		return false
	}
	wantStore(t, what, d, s, l)
	return true
}

func wantFine(t *testing.T, what string, d *disk) {
	t.Helper()
	if !wantAsJudged(t, what, d.Device) {
		t.Errorf("%s: the test's own judge says it is no store", what)
	}
}
