package fsck_test

import (
	"encoding/binary"
	"fmt"
	"hash/crc32"
	"maps"
	"math"
	"slices"
	"strings"
	"testing"

	"copse/api"
	"copse/device"
	"copse/fsck"
	"copse/walk"
)

func must(t *testing.T, err error) {
	t.Helper()
	if err != nil {
		t.Fatal(err)
	}
}

// show is a text short enough to be read.
func show(v any) string {
	s := fmt.Sprintf("%+q", v)
	if len(s) > 300 {
		return s[:300] + ".."
	}
	return s
}

func plainSum(p []byte) uint32 { return crc32.Checksum(p, crc32.MakeTable(crc32.Castagnoli)) }

// plainMeta is the bytes of a meta.
func plainMeta(pages, root int, txid uint64) []byte {
	p := binary.BigEndian.AppendUint32([]byte("COPSE\x00\x01\x00"), uint32(pages))
	p = binary.BigEndian.AppendUint32(p, uint32(root))
	p = binary.BigEndian.AppendUint64(p, txid)
	p = append(p, make([]byte, 512-len(p))...)
	binary.BigEndian.PutUint32(p[24:], plainSum(p))
	return p
}

// plainSlot is the meta that a slot's bytes are, and whether they are one.
func plainSlot(p []byte, pages, slot int) (api.Meta, bool) {
	m := api.Meta{
		Pages: int(binary.BigEndian.Uint32(p[8:])),
		Root:  int(binary.BigEndian.Uint32(p[12:])),
		Txid:  binary.BigEndian.Uint64(p[16:]),
	}
	whole := string(p) == string(plainMeta(m.Pages, m.Root, m.Txid))
	return m, whole && m.Pages == pages && m.Root != 1 && m.Root < pages && int(m.Txid%2) == slot
}

// plainSlots is the bytes of both slots.
func plainSlots(d *device.Device) [2][]byte {
	a, _ := d.Read(0, 1)
	b, _ := d.Read(8, 1)
	return [2][]byte{a, b}
}

// plainCounts is the meta that counts, and whether there is one.
func plainCounts(d *device.Device) (api.Meta, bool) {
	var best api.Meta
	counts := false
	for slot, p := range plainSlots(d) {
		m, ok := plainSlot(p, d.Size()/8, slot)
		if ok && (!counts || m.Txid > best.Txid) {
			best, counts = m, true
		}
	}
	return best, counts
}

// head is what stands in a page ahead of its body, and its cells.
type head struct {
	kind  byte
	txid  uint64
	count int
	body  []byte
}

// plainPage is the page of that number, and whether it is one.
func plainPage(d *device.Device, id int) (head, bool) {
	p, err := d.Read(8*id, 8)
	if err != nil {
		return head{}, false
	}
	sum := binary.BigEndian.Uint32(p[16:])
	copy(p[16:20], []byte{0, 0, 0, 0})
	h := head{p[0], binary.BigEndian.Uint64(p[8:]), int(binary.BigEndian.Uint16(p[2:])), p[24:]}
	zeros := p[1] == 0 && binary.BigEndian.Uint32(p[20:]) == 0
	right := zeros && sum == plainSum(p) && int(binary.BigEndian.Uint32(p[4:])) == id
	return h, right && (h.kind == 0x42 || h.kind == 0x4C)
}

// plainCells is the cells of a body.
func plainCells(h head) ([]string, bool) {
	from := 2 * h.count
	if from > len(h.body) {
		return nil, false
	}
	var l []string
	for i := range h.count {
		end := int(binary.BigEndian.Uint16(h.body[2*i:]))
		if end < from || end > len(h.body) {
			return nil, false
		}
		l = append(l, string(h.body[from:end]))
		from = end
	}
	return l, strings.Trim(string(h.body[from:]), "\x00") == ""
}

// plainNode is what stands in a page: pairs, or links whose first has no key; its own keys; and how many bytes of the body its cells take.
type plainNode struct {
	pairs []api.Pair
	kids  []int
	keys  []string
	size  int
}

func bodySize(cells []string) int { return 2*len(cells) + len(strings.Join(cells, "")) }

// plainLeaf is the leaf that some cells are, and whether they are one.
func plainLeaf(cells []string) (plainNode, bool) {
	n := plainNode{size: bodySize(cells)}
	for _, c := range cells {
		if len(c) < 3 {
			return plainNode{}, false
		}
		key, value := int(c[0]), int(c[1])*256+int(c[2])
		if key == 0 || value > 700 || len(c) != 3+key+value {
			return plainNode{}, false
		}
		n.pairs = append(n.pairs, api.Pair{Key: c[3 : 3+key], Value: c[3+key:]})
		n.keys = append(n.keys, c[3:3+key])
	}
	return n, len(cells) > 0 && rise(n.keys)
}

// plainBranch is the branch that some cells are, and whether they are one.
func plainBranch(cells []string) (plainNode, bool) {
	n := plainNode{size: bodySize(cells)}
	for i, c := range cells {
		key := ""
		if i > 0 {
			if len(c) < 6 || len(c) != 5+int(c[0]) {
				return plainNode{}, false
			}
			key, c = c[1:len(c)-4], c[len(c)-4:]
			n.keys = append(n.keys, key)
		}
		if len(c) != 4 {
			return plainNode{}, false
		}
		kid := int(binary.BigEndian.Uint32([]byte(c)))
		if kid < 2 || kid > 1048575 || slices.Contains(n.kids, kid) {
			return plainNode{}, false
		}
		n.kids = append(n.kids, kid)
	}
	return n, len(n.kids) >= 2 && rise(n.keys)
}

func rise(keys []string) bool {
	for i := range keys {
		if i > 0 && keys[i-1] >= keys[i] {
			return false
		}
	}
	return true
}

// plainRead is the node in a page.
func plainRead(h head) (plainNode, bool) {
	cells, ok := plainCells(h)
	if !ok {
		return plainNode{}, false
	}
	if h.kind == 0x4C {
		return plainLeaf(cells)
	}
	return plainBranch(cells)
}

// spot is a page that is to be visited, with what every branch over it asks of its keys.
type spot struct {
	page, depth int
	lows, highs []string
}

// outside tells if a key has no place there.
func (s spot) outside(key string) bool {
	below := slices.ContainsFunc(s.lows, func(low string) bool { return key < low })
	return below || slices.ContainsFunc(s.highs, func(high string) bool { return key >= high })
}

func (s spot) kids(n plainNode) []spot {
	var l []spot
	for i, kid := range n.kids {
		k := spot{page: kid, depth: s.depth + 1, lows: slices.Clone(s.lows), highs: slices.Clone(s.highs)}
		if i > 0 {
			k.lows = append(k.lows, n.keys[i-1])
		}
		if i < len(n.keys) {
			k.highs = append(k.highs, n.keys[i])
		}
		l = append(l, k)
	}
	return l
}

// plainWalk is the visits, by a list of those that are left.
type plainWalk struct {
	d     *device.Device
	meta  api.Meta
	seen  map[int]bool
	leaf  int
	found []api.Finding
}

func (w *plainWalk) list(page, what int) {
	w.found = append(w.found, api.Finding{Page: page, What: what})
}

// node is what stands at a spot, unless one of the first five findings holds.
func (w *plainWalk) node(s spot) (head, plainNode, bool) {
	if s.depth > 8 {
		w.list(s.page, api.FindDepth)
		return head{}, plainNode{}, false
	}
	if s.page < 2 || s.page > w.meta.Pages-1 {
		w.list(s.page, api.FindBounds)
		return head{}, plainNode{}, false
	}
	if w.seen[s.page] {
		w.list(s.page, api.FindTwice)
		return head{}, plainNode{}, false
	}
	w.seen[s.page] = true
	h, ok := plainPage(w.d, s.page)
	if !ok {
		w.list(s.page, api.FindPage)
		return head{}, plainNode{}, false
	}
	n, ok := plainRead(h)
	if !ok {
		w.list(s.page, api.FindNode)
	}
	return h, n, ok
}

func (w *plainWalk) visit(s spot) []spot {
	h, n, ok := w.node(s)
	if !ok {
		return nil
	}
	if h.txid == 0 || h.txid > w.meta.Txid {
		w.list(s.page, api.FindTxid)
	}
	least := 1556
	if h.kind == 0x42 {
		least = 1777
	}
	if s.page != w.meta.Root && n.size < least {
		w.list(s.page, api.FindFill)
	}
	if slices.ContainsFunc(n.keys, s.outside) {
		w.list(s.page, api.FindOrder)
	}
	if h.kind == 0x42 {
		return s.kids(n)
	}
	if w.leaf == 0 {
		w.leaf = s.depth
	}
	if w.leaf != s.depth {
		w.list(s.page, api.FindKind)
	}
	return nil
}

// plainFindings is the findings of a device that can be a store, by the chapter's words.
func plainFindings(d *device.Device) []api.Finding {
	w := &plainWalk{d: d, seen: map[int]bool{}}
	valid := 0
	for slot, p := range plainSlots(d) {
		_, ok := plainSlot(p, d.Size()/8, slot)
		if ok {
			valid++
		} else if strings.Trim(string(p), "\x00") != "" {
			w.list([]int{-1, -2}[slot], api.FindMeta)
		}
	}
	if valid == 0 && len(w.found) == 0 {
		w.list(-1, api.FindMeta)
	}
	m, counts := plainCounts(d)
	if !counts || m.Root == 0 {
		return w.found
	}
	w.meta = m
	left := []spot{{page: m.Root, depth: 1}}
	for len(left) > 0 {
		left = append(w.visit(left[0]), left[1:]...)
	}
	return w.found
}

func plainCan(d *device.Device) bool { return d.Size() >= 32 && d.Size()/8 <= 1048576 }

// plainReport is what Examine answers, but the survey.
func plainReport(d *device.Device) (api.Report, error) {
	if !plainCan(d) {
		return api.Report{Findings: []api.Finding{{Page: -1, What: api.FindBounds}}}, nil
	}
	if d.Dead() {
		return api.Report{}, api.ErrDead
	}
	r := api.Report{Findings: plainFindings(d)}
	_, counts := plainCounts(d)
	r.Sound = counts && !slices.ContainsFunc(r.Findings, func(f api.Finding) bool { return f.Page >= 0 })
	return r, nil
}

// plainSalvage is what Salvage answers: all pairs of all leaves, the least first, and of each key the last one.
func plainSalvage(d *device.Device) ([]api.Pair, error) {
	if !plainCan(d) {
		return nil, api.ErrCorrupt
	}
	if d.Dead() {
		return nil, api.ErrDead
	}
	if l, err := walk.Content(d); err == nil {
		return l, nil
	}
	youngest := uint64(math.MaxUint64)
	if m, counts := plainCounts(d); counts {
		youngest = m.Txid
	}
	type leaf struct {
		txid  uint64
		pairs []api.Pair
	}
	var leaves []leaf
	for id := 2; id < d.Size()/8; id++ {
		h, ok := plainPage(d, id)
		if !ok || h.kind != 0x4C || h.txid == 0 || h.txid > youngest {
			continue
		}
		if n, ok := plainRead(h); ok {
			leaves = append(leaves, leaf{h.txid, n.pairs})
		}
	}
	slices.SortStableFunc(leaves, func(a, b leaf) int {
		return strings.Compare(fmt.Sprintf("%020d", a.txid), fmt.Sprintf("%020d", b.txid))
	})
	book := map[string]string{}
	for _, l := range leaves {
		for _, p := range l.pairs {
			book[p.Key] = p.Value
		}
	}
	return inOrder(book), nil
}

func inOrder(book map[string]string) []api.Pair {
	var l []api.Pair
	for _, k := range slices.Sorted(maps.Keys(book)) {
		l = append(l, api.Pair{Key: k, Value: book[k]})
	}
	return l
}

// image is what lies on a device, sector by sector, and what it has done.
type image struct {
	durable       map[int]string
	pending       []api.Sector
	written, sync int
	dead          bool
}

func imageOf(d *device.Device) image {
	m := image{durable: map[int]string{}, pending: d.Pending(), dead: d.Dead()}
	for _, s := range d.Durable() {
		m.durable[s.Index] = s.Data
	}
	_, m.written, m.sync = d.Counts()
	return m
}

func (m image) same(other image) bool {
	return maps.Equal(m.durable, other.durable) && slices.Equal(m.pending, other.pending) && m.written == other.written && m.sync == other.sync && m.dead == other.dead
}

// clone is a device on which the same lies durably; nothing is pending on it, and it has no arms.
func clone(t *testing.T, d *device.Device) *device.Device {
	t.Helper()
	other, err := device.Open(d.Size(), d.Durable())
	must(t, err)
	return other
}

func sameReport(a, b api.Report) bool {
	return a.Sound == b.Sound && slices.Equal(a.Findings, b.Findings) && fmt.Sprint(a.Survey) == fmt.Sprint(b.Survey)
}

// wantAsPlain wants of Examine and Salvage what the chapter's words say of a device, and that both leave it as it was; it answers the findings and the pairs.
func wantAsPlain(t *testing.T, what string, d *device.Device) (api.Report, []api.Pair) {
	t.Helper()
	before := imageOf(d)
	want, wantErr := plainReport(d)
	survey, surveyErr := walk.Survey(d)
	want.Survey = survey
	got, err := fsck.Examine(d)
	if err != wantErr || !sameReport(got, want) {
		t.Errorf("%s: Examine: sound %v, %v, %v, %v; want sound %v, %v, %v, %v", what, got.Sound, got.Findings, got.Survey.Meta, err, want.Sound, want.Findings, want.Survey.Meta, wantErr)
	}
	if err == nil && got.Sound != (surveyErr == nil) {
		t.Errorf("%s: sound: %v, Survey: %v", what, got.Sound, surveyErr)
	}
	if err == nil && !got.Sound && len(got.Findings) == 0 {
		t.Errorf("%s: not sound, and nothing found", what)
	}
	pairs, err := fsck.Salvage(d)
	wantPairs, wantErr := plainSalvage(d)
	if err != wantErr || !slices.Equal(pairs, wantPairs) {
		t.Errorf("%s: Salvage: %s, %v; want %s, %v", what, show(pairs), err, show(wantPairs), wantErr)
	}
	if !imageOf(d).same(before) {
		t.Errorf("%s: something was written or synced", what)
	}
	return got, pairs
}

// found are findings, of pages and what is wrong with them in turns.
func found(l ...int) []api.Finding {
	var m []api.Finding
	for i := 0; i+1 < len(l); i += 2 {
		m = append(m, api.Finding{Page: l[i], What: l[i+1]})
	}
	return m
}

// wantFound wants just these findings of a device.
func wantFound(t *testing.T, what string, d *device.Device, sound bool, findings ...int) {
	t.Helper()
	r, _ := wantAsPlain(t, what, d)
	if want := found(findings...); r.Sound != sound || !slices.Equal(r.Findings, want) {
		t.Errorf("%s: sound %v, %v; want sound %v, %v", what, r.Sound, r.Findings, sound, want)
	}
}

// wantSaved wants just these pairs out of a device, of keys and values in turns.
func wantSaved(t *testing.T, what string, d *device.Device, texts ...string) {
	t.Helper()
	_, l := wantAsPlain(t, what, d)
	if want := pairs(texts...); !slices.Equal(l, want) {
		t.Errorf("%s: saved: %s; want %s", what, show(l), show(want))
	}
}
