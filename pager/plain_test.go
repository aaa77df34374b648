package pager_test

import (
	"fmt"
	"maps"
	"math/rand"
	"slices"
	"strings"
	"testing"

	"copse/api"
	"copse/device"
	"copse/free"
	"copse/meta"
	"copse/pager"
	"copse/sheet"
	"copse/tree"
	"copse/walk"
)

// op is an operation of a device: a write to a sector or, without bytes, a sync.
type op struct {
	sector int
	data   []byte
}

func (o op) do(d *device.Device) error {
	if o.data == nil {
		return d.Sync()
	}
	return d.Write(o.sector, o.data)
}

var syncOp = op{}

func metaOp(t *testing.T, m api.Meta) op {
	t.Helper()
	p, err := meta.Encode(m)
	must(t, err)
	return op{sector: 8 * int(m.Txid%2), data: p}
}

func wipeOp(slot int) op { return op{sector: 8 * slot, data: make([]byte, 512)} }

// formatOps are the operations of a Format, as the chapter has them.
func formatOps(t *testing.T, d *device.Device) []op {
	t.Helper()
	pages := d.Size() / 8
	a, err := d.Read(0, 1)
	must(t, err)
	b, err := d.Read(8, 1)
	must(t, err)
	s := 1
	second, err := meta.Decode(b, pages, 1)
	if counts, fault := meta.Choose(a, b, pages); err == nil && fault == nil && counts == second {
		s = 0
	}
	return []op{wipeOp(s), syncOp, wipeOp(1 - s), syncOp, metaOp(t, api.Meta{Pages: pages}), syncOp}
}

// commitOps are the operations of a Commit of a tree, as the chapter has them, and the meta that counts behind it.
func commitOps(t *testing.T, d *device.Device, r *tree.Tree) ([]op, api.Meta) {
	t.Helper()
	s, err := walk.Survey(d)
	must(t, err)
	taken, err := free.New(s.Meta.Pages)
	must(t, err)
	for _, id := range s.Pages {
		must(t, taken.Mark(id))
	}
	next := api.Meta{Pages: d.Size() / 8, Txid: s.Meta.Txid + 1}
	sheets, root, err := r.Copy().Plan(taken, next.Txid)
	must(t, err)
	next.Root = root
	var ops []op
	for _, s := range sheets {
		p, err := sheet.Seal(s)
		must(t, err)
		ops = append(ops, op{sector: 8 * s.ID, data: p})
	}
	return append(ops, syncOp, metaOp(t, next), syncOp), next
}

// played is a device on which these operations were done, and whose power failed then.
func played(t *testing.T, d *device.Device, ops []op, fates []api.Fate) *device.Device {
	t.Helper()
	d = clone(t, d)
	for _, o := range ops {
		must(t, o.do(d))
	}
	d.Crash(fates)
	return d
}

// clone is a device on which the same lies durably.
func clone(t *testing.T, d *device.Device) *device.Device {
	t.Helper()
	c, err := device.Open(d.Size(), d.Durable())
	must(t, err)
	return c
}

// book is a plain map of keys to values.
type book map[string]string

func (b book) pairs() []api.Pair {
	var l []api.Pair
	for _, k := range slices.Sorted(maps.Keys(b)) {
		l = append(l, api.Pair{Key: k, Value: b[k]})
	}
	return l
}

// change is a pair that is put, or a key that is deleted.
type change struct {
	key, value string
	gone       bool
}

// apply makes changes in a tree, and answers what a book is with them.
func (b book) apply(t *testing.T, r *tree.Tree, changes []change) book {
	t.Helper()
	b = maps.Clone(b)
	for _, c := range changes {
		if c.gone {
			_, err := r.Delete(c.key)
			must(t, err)
			delete(b, c.key)
			continue
		}
		must(t, r.Put(c.key, c.value))
		b[c.key] = c.value
	}
	return b
}

// shop is a store on a device, and what it must hold.
type shop struct {
	name string
	d    *device.Device
	book book
	meta api.Meta
}

// emptyShop is one that Format has made, laid by hand.
func emptyShop(t *testing.T, name string, sectors int) shop {
	t.Helper()
	s := shop{name: name, d: device.New(sectors), book: book{}, meta: api.Meta{Pages: sectors / 8}}
	must(t, meta.Store(s.d, s.meta))
	must(t, s.d.Sync())
	return s
}

func (s shop) clone(t *testing.T) shop {
	t.Helper()
	s.d, s.book = clone(t, s.d), maps.Clone(s.book)
	return s
}

// tree is the tree that counts.
func (s shop) tree() *tree.Tree { return tree.Open(s.d, s.meta) }

// commit makes changes durable by hand, without a pager.
func (s *shop) commit(t *testing.T, changes []change) {
	t.Helper()
	r := s.tree()
	b := s.book.apply(t, r, changes)
	ops, next := commitOps(t, s.d, r)
	for _, o := range ops {
		must(t, o.do(s.d))
	}
	s.book, s.meta = b, next
}

// long is a key of 255 bytes.
func long(name string) string { return name + strings.Repeat("-", 255-len(name)) }

// puts are changes that put so many pairs, from that number on.
func puts(from, n, size int) []change {
	var l []change
	for i := range n {
		l = append(l, change{key: long(fmt.Sprintf("k%03d", (from+i)%1000)), value: strings.Repeat(string(rune('a'+from%26)), size)})
	}
	return l
}

// drops are changes that delete so many of these pairs.
func drops(from, n int) []change {
	var l []change
	for i := range n {
		l = append(l, change{key: long(fmt.Sprintf("k%03d", from+i)), gone: true})
	}
	return l
}

// shops are stores of each depth, whose meta lies in either slot, with holes among their pages.
func shops(t *testing.T) []shop {
	t.Helper()
	one := []change{{key: "a", value: "1"}}
	var l []shop
	for _, s := range []struct {
		name    string
		sectors int
		commits [][]change
	}{
		{"empty", 80, nil},
		{"empty, slot 1", 85, [][]change{nil}},
		{"one leaf, slot 1", 80, [][]change{one}},
		{"one leaf, slot 0", 87, [][]change{one, {{key: "b", value: "2"}}}},
		{"emptied", 80, [][]change{one, {{key: "a", gone: true}}}},
		{"two levels, slot 1", 8 * 60, [][]change{puts(0, 20, 600)}},
		{"two levels, slot 0", 8 * 60, [][]change{puts(0, 20, 600), puts(7, 3, 500)}},
		{"three levels, slot 0", 8 * 200, [][]change{puts(0, 60, 700), drops(13, 17)}},
		{"three levels, slot 1", 8 * 200, [][]change{puts(0, 60, 700), drops(30, 9), puts(50, 2, 9)}},
	} {
		made := emptyShop(t, s.name, s.sectors)
		for _, c := range s.commits {
			made.commit(t, c)
		}
		l = append(l, made)
	}
	return l
}

// work is what is done to a tree ahead of a commit.
type work struct {
	name    string
	changes []change
}

// works are changes of no, of one and of many nodes.
func works() []work {
	return []work{
		{"nothing", nil},
		{"one pair", []change{{key: "a", value: "2"}}},
		{"two far apart", append(puts(2, 1, 650), puts(40, 1, 650)...)},
		{"many", puts(0, 19, 300)},
		{"some go", drops(3, 9)},
		{"all go", append(drops(0, 60), change{key: "a", gone: true}, change{key: "b", gone: true})},
		{"put and gone", []change{{key: "zz", value: "1"}, {key: "zz", gone: true}}},
	}
}

// fatesOf are ways in which a power failure treats so many pending writes.
func fatesOf(rnd *rand.Rand, pending int) [][]api.Fate {
	all := func(make func(i int) api.Fate) []api.Fate {
		var l []api.Fate
		for i := range pending {
			l = append(l, make(i))
		}
		return l
	}
	keep := func(i int) api.Fate { return api.Fate{Index: i, Kind: api.FateKeep} }
	mixed := func(i int) api.Fate {
		return api.Fate{Index: rnd.Intn(pending+2) - 1, Kind: rnd.Intn(5), Cut: rnd.Intn(520) - 4, Junk: strings.Repeat("z", rnd.Intn(600))}
	}
	backwards := all(keep)
	slices.Reverse(backwards)
	return [][]api.Fate{
		nil,
		all(keep),
		backwards,
		all(func(i int) api.Fate { return api.Fate{Index: i, Kind: api.FateDrop} }),
		all(func(i int) api.Fate { return api.Fate{Index: i, Kind: api.FateTear, Cut: rnd.Intn(28)} }),
		all(func(i int) api.Fate { return api.Fate{Index: i, Kind: api.FateTear, Cut: 28 + rnd.Intn(500)} }),
		{{Index: pending, Kind: api.FateKeep}, {Index: pending - 1, Kind: api.FateKeep}, {Index: -1, Kind: api.FateKeep}},
		all(mixed),
	}
}

func must(t *testing.T, err error) {
	t.Helper()
	if err != nil {
		t.Fatal(err)
	}
}

func boot(t *testing.T, d *device.Device) *pager.Pager {
	t.Helper()
	p, err := pager.Boot(d)
	if err != nil || p == nil {
		t.Fatalf("Boot: %v", err)
	}
	return p
}

func formatted(t *testing.T, sectors int) (*device.Device, *pager.Pager) {
	t.Helper()
	d := device.New(sectors)
	must(t, pager.Format(d))
	return d, boot(t, d)
}

// pending is how many sectors wait for the sync that follows the operations.
func pending(ops []op) int {
	n := 0
	for _, o := range ops {
		n += len(o.data) / 512
		if o.data == nil {
			n = 0
		}
	}
	return n
}

// wantHeld holds what lies on a device against a meta and pairs.
func wantHeld(t *testing.T, what string, d *device.Device, m api.Meta, b book) {
	t.Helper()
	s, err := walk.Survey(d)
	if err != nil || s.Meta != m {
		t.Fatalf("%s: Survey has %v, %v, want %v", what, s.Meta, err, m)
	}
	l, err := walk.Content(d)
	if err != nil || !slices.Equal(l, b.pairs()) {
		t.Fatalf("%s: %d pairs, %v, want %d", what, len(l), err, len(b))
	}
}

// wantPager holds what a pager says against what lies on its device.
func wantPager(t *testing.T, what string, p *pager.Pager, d *device.Device) {
	t.Helper()
	s, err := walk.Survey(d)
	must(t, err)
	if p.Meta() != s.Meta || p.Free() != s.Meta.Pages-2-len(s.Pages) {
		t.Fatalf("%s: %v with %d free, want %v with %d", what, p.Meta(), p.Free(), s.Meta, s.Meta.Pages-2-len(s.Pages))
	}
	l, err := p.Tree().Pairs("", "", 1<<20)
	must(t, err)
	if c, err := walk.Content(d); err != nil || !slices.Equal(l, c) {
		t.Fatalf("%s: the tree has %d pairs, the device %d, %v", what, len(l), len(c), err)
	}
}

// wantSame holds two devices against one another, byte by byte.
func wantSame(t *testing.T, what string, d, want *device.Device) {
	t.Helper()
	if !slices.Equal(d.Durable(), want.Durable()) {
		t.Fatalf("%s: other bytes are durable", what)
	}
	if !slices.Equal(d.Pending(), want.Pending()) {
		t.Fatalf("%s: other bytes are pending", what)
	}
}

// wantDone holds the operations of a device since its counts were taken against these.
func wantDone(t *testing.T, what string, d *device.Device, since [3]int, ops []op) {
	t.Helper()
	sectors, syncs := 0, 0
	for _, o := range ops {
		sectors += len(o.data) / 512
		if o.data == nil {
			syncs++
		}
	}
	_, w, s := d.Counts()
	if w-since[1] != sectors || s-since[2] != syncs {
		t.Fatalf("%s: %d sectors were written and %d syncs done, want %d and %d", what, w-since[1], s-since[2], sectors, syncs)
	}
}

func counts(d *device.Device) [3]int {
	r, w, s := d.Counts()
	return [3]int{r, w, s}
}
