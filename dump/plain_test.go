package dump_test

import (
	"encoding/binary"
	"fmt"
	"hash/crc32"
	"maps"
	"math"
	"math/rand"
	"slices"
	"strings"
	"testing"

	"copse/api"
	"copse/device"
	"copse/kv"
	"copse/walk"
)

func must(t *testing.T, err error) {
	t.Helper()
	if err != nil {
		t.Fatal(err)
	}
}

// show is a text short enough to be read.
func show(v any) string {
	s := fmt.Sprintf("%+q", v)
	if len(s) > 300 {
		return s[:300] + ".."
	}
	return s
}

// pairs are of keys and values, in turns.
func pairs(texts ...string) []api.Pair {
	var l []api.Pair
	for i := 0; i+1 < len(texts); i += 2 {
		l = append(l, api.Pair{Key: texts[i], Value: texts[i+1]})
	}
	return l
}

func numberKey(i int) string { return string(binary.BigEndian.AppendUint32(nil, uint32(i))) }

// keyOf is a key of so many bytes, four or more, that stands in the order of its number.
func keyOf(i, bytes int) string { return numberKey(i) + strings.Repeat("k", bytes-4) }

// sized are rising pairs, each of which takes so many bytes in a leaf, 9 to 960.
func sized(sizes ...int) []api.Pair {
	var l []api.Pair
	for i, n := range sizes {
		value := min(n-9, 700)
		l = append(l, api.Pair{Key: keyOf(i, n-5-value), Value: strings.Repeat("v", value)})
	}
	return l
}

// alike are so many pairs of one size.
func alike(n, size int) []api.Pair { return sized(slices.Repeat([]int{size}, n)...) }

// stand are the pairs of leaves of four pairs each, whose first keys have these bytes, 4 to 255: four such pairs have room in a leaf, and a fifth never has.
func stand(lengths ...int) []api.Pair {
	var l []api.Pair
	value := strings.Repeat("v", 700)
	for i, n := range lengths {
		l = append(l, api.Pair{Key: keyOf(4*i, n), Value: value})
		for j := range 3 {
			l = append(l, api.Pair{Key: keyOf(4*i+1+j, 255), Value: value})
		}
	}
	return l
}

func randomText(r *rand.Rand, least, most int) string {
	p := make([]byte, least+r.Intn(most-least+1))
	r.Read(p)
	return string(p)
}

// randomPairs are rising, with keys and values of all sizes or of a few.
func randomPairs(r *rand.Rand, most int) []api.Pair {
	book := map[string]string{}
	mostKey, mostValue := []int{4, 30, 100, 255, 255}[r.Intn(5)], []int{0, 20, 300, 700}[r.Intn(4)]
	leastKey, leastValue := 1+r.Intn(mostKey), r.Intn(mostValue+1)
	for range r.Intn(most + 1) {
		book[randomText(r, leastKey, mostKey)] = randomText(r, leastValue, mostValue)
	}
	return inOrder(book)
}

func inOrder(book map[string]string) []api.Pair {
	var l []api.Pair
	for _, k := range slices.Sorted(maps.Keys(book)) {
		l = append(l, api.Pair{Key: k, Value: book[k]})
	}
	return l
}

// plainFault is the fault of pairs.
func plainFault(l []api.Pair) error {
	for i, p := range l {
		if len(p.Key) < 1 || len(p.Key) > 255 || len(p.Value) > 700 {
			return api.ErrArg
		}
		if i > 0 && strings.Compare(l[i-1].Key, p.Key) >= 0 {
			return api.ErrOrder
		}
	}
	return nil
}

func pairSize(p api.Pair) int { return 5 + len(p.Key) + len(p.Value) }

func sizeOf(l []api.Pair) int {
	size := 0
	for _, p := range l {
		size += pairSize(p)
	}
	return size
}

// evenest is the place from which to which, from a first one on, at which two sums are the nearest; both are told for every place.
func evenest(from, to int, sums func(i int) (int, int)) int {
	best, least := 0, math.MaxInt
	for i := from; i <= to; i++ {
		a, b := sums(i)
		if gap := max(a-b, b-a); gap < least {
			best, least = i, gap
		}
	}
	return best
}

// plainLeaves is the pairs of each leaf.
func plainLeaves(l []api.Pair) [][]api.Pair {
	var leaves [][]api.Pair
	for _, p := range l {
		if n := len(leaves); n > 0 && sizeOf(leaves[n-1])+pairSize(p) <= 4072 {
			leaves[n-1] = append(leaves[n-1], p)
		} else {
			leaves = append(leaves, []api.Pair{p})
		}
	}
	if n := len(leaves); n >= 2 && sizeOf(leaves[n-1]) < 1556 {
		both := slices.Concat(leaves[n-2], leaves[n-1])
		at := evenest(1, len(both)-1, func(i int) (int, int) { return sizeOf(both[:i]), sizeOf(both[i:]) })
		leaves[n-2], leaves[n-1] = both[:at], both[at:]
	}
	return leaves
}

// kid is a node of a row: its page, and its least key.
type kid struct {
	page  int
	least string
}

func linksSize(kids []kid) int {
	size := 0
	for _, k := range kids {
		size += 7 + len(k.least)
	}
	return size
}

func overSize(kids []kid) int { return 6 + linksSize(kids[1:]) }

// plainBranches is the children of each branch over a row.
func plainBranches(row []kid) [][]kid {
	var branches [][]kid
	for _, k := range row {
		if n := len(branches); n > 0 && overSize(append(slices.Clone(branches[n-1]), k)) <= 4072 {
			branches[n-1] = append(branches[n-1], k)
		} else {
			branches = append(branches, []kid{k})
		}
	}
	n := len(branches)
	if n >= 2 && (len(branches[n-1]) == 1 || overSize(branches[n-1]) < 1777) {
		both := slices.Concat(branches[n-2], branches[n-1])
		links := both[1:]
		up := evenest(1, len(links)-2, func(i int) (int, int) { return linksSize(links[:i]), linksSize(links[i+1:]) })
		branches[n-2], branches[n-1] = both[:up+1], both[up+1:]
	}
	return branches
}

// plainBody is the body of some cells.
func plainBody(cells []string) string {
	var slots []byte
	end := 2 * len(cells)
	for _, c := range cells {
		end += len(c)
		slots = binary.BigEndian.AppendUint16(slots, uint16(end))
	}
	body := string(slots) + strings.Join(cells, "")
	return body + strings.Repeat("\x00", 4072-len(body))
}

func plainSum(p []byte) uint32 { return crc32.Checksum(p, crc32.MakeTable(crc32.Castagnoli)) }

// plainPage is the page of a node, by transaction 1.
func plainPage(kind byte, id int, cells []string) string {
	p := binary.BigEndian.AppendUint16([]byte{kind, 0}, uint16(len(cells)))
	p = binary.BigEndian.AppendUint32(p, uint32(id))
	p = binary.BigEndian.AppendUint64(p, 1)
	p = append(p, make([]byte, 8)...)
	p = append(p, plainBody(cells)...)
	binary.BigEndian.PutUint32(p[16:], plainSum(p))
	return string(p)
}

func plainMeta(pages, root int, txid uint64) string {
	p := binary.BigEndian.AppendUint32([]byte("COPSE\x00\x01\x00"), uint32(pages))
	p = binary.BigEndian.AppendUint32(p, uint32(root))
	p = binary.BigEndian.AppendUint64(p, txid)
	p = append(p, make([]byte, 512-len(p))...)
	binary.BigEndian.PutUint32(p[24:], plainSum(p))
	return string(p)
}

func leafCells(l []api.Pair) []string {
	var cells []string
	for _, p := range l {
		head := binary.BigEndian.AppendUint16([]byte{byte(len(p.Key))}, uint16(len(p.Value)))
		cells = append(cells, string(head)+p.Key+p.Value)
	}
	return cells
}

func branchCells(kids []kid) []string {
	cells := []string{numberKey(kids[0].page)}
	for _, k := range kids[1:] {
		cells = append(cells, string([]byte{byte(len(k.least))})+k.least+numberKey(k.page))
	}
	return cells
}

// bulk is a bulk by the chapter's words: its pages from 2 on, byte by byte, and how many nodes each row has, from the leaves upwards.
type bulk struct {
	pages []string
	rows  []int
}

func (b *bulk) root() int {
	if len(b.pages) == 0 {
		return 0
	}
	return 1 + len(b.pages)
}

func (b *bulk) put(kind byte, least string, cells []string) kid {
	id := 2 + len(b.pages)
	b.pages = append(b.pages, plainPage(kind, id, cells))
	return kid{id, least}
}

func plainBulk(l []api.Pair) *bulk {
	b := &bulk{}
	var row []kid
	for _, some := range plainLeaves(l) {
		row = append(row, b.put(0x4C, some[0].Key, leafCells(some)))
	}
	for len(row) > 0 {
		b.rows = append(b.rows, len(row))
		if len(row) == 1 {
			break
		}
		var above []kid
		for _, kids := range plainBranches(row) {
			above = append(above, b.put(0x42, kids[0].least, branchCells(kids)))
		}
		row = above
	}
	return b
}

// image is what lies on a device, sector by sector, and what it has done.
type image struct {
	durable       map[int]string
	pending       []api.Sector
	written, sync int
	dead          bool
}

func imageOf(d *device.Device) image {
	m := image{durable: map[int]string{}, pending: d.Pending(), dead: d.Dead()}
	for _, s := range d.Durable() {
		m.durable[s.Index] = s.Data
	}
	_, m.written, m.sync = d.Counts()
	return m
}

// wantSame wants two devices to hold the same, and to have done as much.
func wantSame(t *testing.T, what string, got, want image) {
	t.Helper()
	for at := range maps.Keys(union(got.durable, want.durable)) {
		if got.durable[at] != want.durable[at] {
			t.Errorf("%s: sector %d is not as it should be", what, at)
		}
	}
	if !slices.Equal(got.pending, want.pending) || got.written != want.written || got.sync != want.sync || got.dead != want.dead {
		t.Errorf("%s: %d pending, %d written, %d syncs, dead %v; want %d, %d, %d, %v", what, len(got.pending), got.written, got.sync, got.dead, len(want.pending), want.written, want.sync, want.dead)
	}
}

func union(a, b map[int]string) map[int]string {
	all := maps.Clone(a)
	maps.Copy(all, b)
	return all
}

// clone is a device on which the same lies durably; nothing is pending on it, and it has no arms.
func clone(t *testing.T, d *device.Device) *device.Device {
	t.Helper()
	other, err := device.Open(d.Size(), d.Durable())
	must(t, err)
	return other
}

// storeOf is a device of so many pages on which a store lies that has had so many transactions, the last of which left these pairs.
func storeOf(t *testing.T, pages, txid int, l []api.Pair) *device.Device {
	t.Helper()
	d := device.New(8 * pages)
	s := kv.New(d)
	must(t, s.Format())
	must(t, s.Open())
	for i := range txid {
		must(t, s.Begin())
		if i == txid-1 {
			for _, p := range l {
				must(t, s.Put(p.Key, p.Value))
			}
		}
		must(t, s.Commit())
	}
	return d
}

// wantHeld wants a store with these pairs and this transaction.
func wantHeld(t *testing.T, what string, d *device.Device, txid uint64, l []api.Pair) {
	t.Helper()
	s, err := walk.Survey(d)
	if err != nil || s.Meta.Txid != txid || s.Meta.Pages != d.Size()/8 {
		t.Errorf("%s: meta %v, %v; want transaction %d", what, s.Meta, err, txid)
	}
	got, err := walk.Content(d)
	if err != nil || !slices.Equal(got, l) {
		t.Errorf("%s: %d pairs, %v; want %d: %s, want %s", what, len(got), err, len(l), show(got), show(l))
	}
}
