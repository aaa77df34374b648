package meta_test

import (
	"bytes"
	"encoding/binary"
	"fmt"
	"hash/crc32"
	"math"
	"math/rand"
	"slices"
	"testing"

	"copse/api"
	"copse/device"
	"copse/meta"
)

const (
	sectorLen  = 512
	leastPages = 4
	mostPages  = 1048576
	mostSize   = 8388615
	sumPlace   = 24
	sumEnd     = 28
	lastTxid   = math.MaxUint64
)

// noMeta is the zero meta, which stands beside an error.
var noMeta api.Meta

func of(pages, root int, txid uint64) api.Meta {
	return api.Meta{Pages: pages, Root: root, Txid: txid}
}

// at is a meta of four pages.
func at(txid uint64) api.Meta { return of(4, 2, txid) }

// summed is the sector with the sum that fits, made by the library.
func summed(p []byte) []byte {
	q := bytes.Clone(p)
	clear(q[sumPlace:sumEnd])
	binary.BigEndian.PutUint32(q[sumPlace:], crc32.Checksum(q, crc32.MakeTable(crc32.Castagnoli)))
	return q
}

// plainBytes is the chapter's table, written by the library; the meta need not be one that may be.
func plainBytes(m api.Meta) []byte {
	p := []byte("COPSE\x00\x01\x00")
	p = binary.BigEndian.AppendUint32(p, uint32(m.Pages))
	p = binary.BigEndian.AppendUint32(p, uint32(m.Root))
	p = binary.BigEndian.AppendUint64(p, m.Txid)
	return summed(append(p, make([]byte, sectorLen-len(p))...))
}

// plainRead is the meta that the chapter's words see in p, and whether p is valid there.
func plainRead(p []byte, pages, slot int) (api.Meta, bool) {
	if len(p) != sectorLen || string(p[:8]) != "COPSE\x00\x01\x00" || !bytes.Equal(p, summed(p)) {
		return noMeta, false
	}
	for _, b := range p[sumEnd:] {
		if b != 0 {
			return noMeta, false
		}
	}
	m := of(int(binary.BigEndian.Uint32(p[8:])), int(binary.BigEndian.Uint32(p[12:])), binary.BigEndian.Uint64(p[16:]))
	rootFits := m.Root == 0 || m.Root >= 2 && m.Root <= m.Pages-1
	if m.Pages != pages || pages < leastPages || pages > mostPages || !rootFits || m.Txid%2 != uint64(slot) {
		return noMeta, false
	}
	return m, true
}

// randomMeta is a meta that may be, often with numbers at their edges.
func randomMeta(r *rand.Rand) api.Meta {
	pick := func(l ...int) int { return l[r.Intn(len(l))] }
	pages := pick(4, 5, 255, 256, 65536, 65537, mostPages-1, mostPages, 4+r.Intn(mostPages-3))
	txids := []uint64{0, 1, 2, 255, 256, 1<<32 + 7, 1 << 63, lastTxid - 1, lastTxid, r.Uint64(), r.Uint64()}
	return of(pages, pick(0, 2, 3, pages-1, 2+r.Intn(pages-2)), txids[r.Intn(len(txids))])
}

// noPages are numbers of pages that may not be.
func noPages() []int {
	return []int{3, 2, 1, 0, -1, -4, mostPages + 1, mostPages * 2, 1<<32 + 4, 1<<32 - 1, -1<<32 + 4, 1<<62 + 4, math.MinInt, math.MinInt + 4, math.MaxInt}
}

// noSlots are numbers that are no slots.
func noSlots() []int {
	return []int{-1, 2, 3, -2, 8, 256, 257, 1 << 32, 1<<32 + 1, math.MinInt, math.MinInt + 1, math.MaxInt}
}

// noRoots are pages of so many at which no tree begins.
func noRoots(pages int) []int {
	return []int{-1, 1, pages, pages + 1, -2, -pages, mostPages, 1 << 32, 1<<32 + 2, -1<<32 + 2, 1<<63 - 1, math.MinInt, math.MinInt + 2}
}

func wantError(t *testing.T, what string, got, want error) {
	t.Helper()
	if got != want {
		t.Errorf("%s: %v, want %v", what, got, want)
	}
}

func wantMeta(t *testing.T, what string, got api.Meta, err error, want api.Meta) {
	t.Helper()
	if got != want || err != nil {
		t.Errorf("%s: %+v, %v, want %+v", what, got, err, want)
	}
}

func wantNone(t *testing.T, what string, got api.Meta, err, want error) {
	t.Helper()
	if got != noMeta || err != want {
		t.Errorf("%s: %+v, %v, want the zero meta, %v", what, got, err, want)
	}
}

// encode is the bytes of a meta that must be.
func encode(t *testing.T, m api.Meta) []byte {
	t.Helper()
	p, err := meta.Encode(m)
	if err != nil || len(p) != sectorLen {
		t.Fatalf("Encode(%+v): %d bytes, %v", m, len(p), err)
	}
	return p
}

func wantNoBytes(t *testing.T, m api.Meta) {
	t.Helper()
	if p, err := meta.Encode(m); len(p) != 0 || err != api.ErrArg {
		t.Errorf("Encode(%+v): %d bytes, %v, want none, ErrArg", m, len(p), err)
	}
}

func wantDecode(t *testing.T, what string, p []byte, want api.Meta) {
	t.Helper()
	got, err := meta.Decode(p, want.Pages, int(want.Txid%2))
	wantMeta(t, what, got, err, want)
}

func wantNotDecoded(t *testing.T, what string, p []byte, pages, slot int, want error) {
	t.Helper()
	got, err := meta.Decode(p, pages, slot)
	wantNone(t, what, got, err, want)
}

// wantInNoSlot asks for p in both slots, with the pages given and with those that p says.
func wantInNoSlot(t *testing.T, what string, p []byte, pages int) {
	t.Helper()
	says := int(binary.BigEndian.Uint32(p[8:]))
	for slot := range 2 {
		wantNotDecoded(t, what, p, pages, slot, api.ErrText)
		if says != pages && says >= leastPages && says <= mostPages {
			wantNotDecoded(t, what+", with the pages that it says", p, says, slot, api.ErrText)
		}
	}
}

// wantAsPlain holds Decode against the chapter's words.
func wantAsPlain(t *testing.T, what string, p []byte, pages, slot int) {
	t.Helper()
	got, err := meta.Decode(p, pages, slot)
	if m, ok := plainRead(p, pages, slot); ok {
		wantMeta(t, what, got, err, m)
	} else if pages < leastPages || pages > mostPages || slot < 0 || slot > 1 {
		wantNone(t, what, got, err, api.ErrArg)
	} else {
		wantNone(t, what, got, err, api.ErrText)
	}
}

func store(t *testing.T, d *device.Device, m api.Meta) {
	t.Helper()
	wantError(t, fmt.Sprintf("Store(%+v)", m), meta.Store(d, m), nil)
}

func sync(t *testing.T, d *device.Device) {
	t.Helper()
	wantError(t, "Sync", d.Sync(), nil)
}

func wantLoad(t *testing.T, what string, d *device.Device, want api.Meta) {
	t.Helper()
	got, err := meta.Load(d)
	wantMeta(t, what, got, err, want)
}

func wantNotLoaded(t *testing.T, what string, d *device.Device, want error) {
	t.Helper()
	got, err := meta.Load(d)
	wantNone(t, what, got, err, want)
}

func wantCounts(t *testing.T, what string, d *device.Device, read, written, synced int) {
	t.Helper()
	if r, w, s := d.Counts(); r != read || w != written || s != synced {
		t.Errorf("%s: %d sectors read, %d written, %d syncs, want %d, %d, %d", what, r, w, s, read, written, synced)
	}
}

// onDevice is a device with these bytes durable in its slots.
func onDevice(t *testing.T, size int, a, b []byte) *device.Device {
	t.Helper()
	d, err := device.Open(size, []api.Sector{{Index: 0, Data: string(a)}, {Index: 8, Data: string(b)}})
	if err != nil {
		t.Fatal(err)
	}
	return d
}

// again is a device on which the same sectors lie.
func again(t *testing.T, d *device.Device) *device.Device {
	t.Helper()
	e, err := device.Open(d.Size(), d.Durable())
	if err != nil {
		t.Fatal(err)
	}
	return e
}

// slotBytes is what stands in a slot.
func slotBytes(t *testing.T, d *device.Device, slot int) []byte {
	t.Helper()
	p, err := d.Read(8*slot, 1)
	if err != nil {
		t.Fatal(err)
	}
	return p
}

// state is all that a device tells of itself.
func state(d *device.Device) string {
	r, w, s := d.Counts()
	return fmt.Sprint(d.Size(), d.Dead(), r, w, s, d.Durable(), d.Pending())
}

// ---- P5.1 ----

func TestP5_1_Slots(t *testing.T) {
	for _, c := range []struct {
		txid uint64
		want int
	}{
		{0, 0}, {1, 1}, {2, 0}, {3, 1}, {255, 1}, {256, 0}, {1<<32 - 1, 1}, {1 << 32, 0},
		{1<<63 - 1, 1}, {1 << 63, 0}, {1<<63 + 1, 1}, {lastTxid - 1, 0}, {lastTxid, 1},
	} {
		if got := meta.Slot(c.txid); got != c.want {
			t.Errorf("Slot(%d) = %d, want %d", c.txid, got, c.want)
		}
	}
	r := rand.New(rand.NewSource(51))
	for range 1000 {
		txid := r.Uint64()
		if got := meta.Slot(txid); got != int(txid%2) {
			t.Errorf("Slot(%d) = %d", txid, got)
		}
	}
}

// ---- P5.2 ----

func TestP5_2_EveryByteWhereItStands(t *testing.T) {
	p := encode(t, of(0x0A0B0C, 0x010203, 0x1112131415161718))
	for _, c := range []struct {
		what  string
		place int
		want  string
	}{
		{"the mark", 0, "COPSE\x00\x01\x00"},
		{"Pages", 8, "\x00\x0A\x0B\x0C"},
		{"Root", 12, "\x00\x01\x02\x03"},
		{"Txid", 16, "\x11\x12\x13\x14\x15\x16\x17\x18"},
		{"the zeros", 28, string(make([]byte, 484))},
	} {
		if got := string(p[c.place : c.place+len(c.want)]); got != c.want {
			t.Errorf("%s: % x, want % x", c.what, got, c.want)
		}
	}
	if !bytes.Equal(p, summed(p)) {
		t.Errorf("the sum: % x, want % x", p[24:28], summed(p)[24:28])
	}
}

func TestP5_2_Metas(t *testing.T) {
	r := rand.New(rand.NewSource(52))
	for range 3000 {
		m := randomMeta(r)
		if p := encode(t, m); !bytes.Equal(p, plainBytes(m)) {
			t.Fatalf("Encode(%+v): % x, want % x", m, p[:28], plainBytes(m)[:28])
		}
	}
}

func TestP5_2_Edges(t *testing.T) {
	for _, pages := range []int{4, 5, mostPages - 1, mostPages} {
		for _, txid := range []uint64{0, 1, 2, 1 << 63, lastTxid - 1, lastTxid} {
			for _, root := range []int{0, 2, pages - 2, pages - 1} {
				if p := encode(t, of(pages, root, txid)); !bytes.Equal(p, plainBytes(of(pages, root, txid))) {
					t.Errorf("Encode(%d, %d, %d): % x", pages, root, txid, p[:28])
				}
			}
			for _, root := range noRoots(pages) {
				wantNoBytes(t, of(pages, root, txid))
			}
		}
	}
	for _, pages := range noPages() {
		for _, root := range []int{0, 1, 2, pages - 1, pages} {
			wantNoBytes(t, of(pages, root, 0))
			wantNoBytes(t, of(pages, root, 1))
		}
	}
	wantNoBytes(t, noMeta)
}

func TestP5_2_EveryRootOfFewPages(t *testing.T) {
	for pages := leastPages; pages < 40; pages++ {
		for root := -3; root < pages+3; root++ {
			m := of(pages, root, uint64(pages))
			if root == 0 || root >= 2 && root < pages {
				wantDecode(t, "Decode of Encode", encode(t, m), m)
				continue
			}
			wantNoBytes(t, m)
		}
	}
}

// ---- P5.3 ----

func TestP5_3_Reads(t *testing.T) {
	r := rand.New(rand.NewSource(53))
	for range 3000 {
		m := randomMeta(r)
		wantDecode(t, "Decode", plainBytes(m), m)
	}
}

func TestP5_3_ItsOwnSlotAndPagesAlone(t *testing.T) {
	r := rand.New(rand.NewSource(54))
	for range 300 {
		m := randomMeta(r)
		p, own := plainBytes(m), int(m.Txid%2)
		wantDecode(t, "its own", p, m)
		wantNotDecoded(t, "the other slot", p, m.Pages, 1-own, api.ErrText)
		for _, pages := range []int{m.Pages - 1, m.Pages + 1, m.Pages ^ 256, m.Root, 4, 5, mostPages, 4 + r.Intn(mostPages-3)} {
			if pages == m.Pages || pages < leastPages || pages > mostPages {
				continue
			}
			wantNotDecoded(t, fmt.Sprintf("%+v of %d pages", m, pages), p, pages, own, api.ErrText)
			wantNotDecoded(t, fmt.Sprintf("%+v of %d pages in the other slot", m, pages), p, pages, 1-own, api.ErrText)
		}
	}
}

func TestP5_3_ArgumentsComeFirst(t *testing.T) {
	for name, p := range map[string][]byte{
		"a meta": plainBytes(at(2)), "one of slot 1": plainBytes(at(3)), "no bytes": nil, "zeros": make([]byte, 512), "a byte too few": plainBytes(at(2))[:511],
	} {
		for _, slot := range noSlots() {
			wantNotDecoded(t, fmt.Sprint(name, " in slot ", slot), p, 4, slot, api.ErrArg)
			wantNotDecoded(t, fmt.Sprint(name, " of 3 pages in slot ", slot), p, 3, slot, api.ErrArg)
		}
		for _, pages := range noPages() {
			wantNotDecoded(t, fmt.Sprint(name, " of ", pages, " pages"), p, pages, 0, api.ErrArg)
			wantNotDecoded(t, fmt.Sprint(name, " of ", pages, " pages in slot 1"), p, pages, 1, api.ErrArg)
		}
	}
	for _, pages := range noPages() {
		wantNotDecoded(t, fmt.Sprint("bytes that say ", pages, " pages"), plainBytes(of(pages, 0, 0)), pages, 0, api.ErrArg)
	}
}

func TestP5_3_OtherLengths(t *testing.T) {
	m := of(4, 3, 6)
	p := append(plainBytes(m), make([]byte, 600)...)
	for n := range p {
		if n != sectorLen {
			wantNotDecoded(t, fmt.Sprint(n, " bytes"), p[:n], 4, 0, api.ErrText)
		}
	}
	wantNotDecoded(t, "none", nil, 4, 0, api.ErrText)
	wantNotDecoded(t, "none, slot 1", []byte{}, 4, 1, api.ErrText)
	wantNotDecoded(t, "the first byte is missing", p[1:513], 4, 0, api.ErrText)
	wantNotDecoded(t, "the meta twice", append(plainBytes(m), plainBytes(m)...), 4, 0, api.ErrText)
	wantDecode(t, "just 512", p[:512], m)
}

func TestP5_3_MetasThatMayNotBe(t *testing.T) {
	for _, pages := range []int{4, 5, 1000, mostPages} {
		for _, root := range noRoots(pages) {
			if uint32(root) != 0 && (uint32(root) < 2 || uint32(root) >= uint32(pages)) {
				wantInNoSlot(t, fmt.Sprint("the root ", root, " of ", pages), plainBytes(of(pages, root, 0)), pages)
				wantInNoSlot(t, fmt.Sprint("the root ", root, " of ", pages), plainBytes(of(pages, root, 1)), pages)
			}
		}
	}
	for _, pages := range noPages() {
		if uint32(pages) < leastPages || uint32(pages) > mostPages {
			wantInNoSlot(t, fmt.Sprint("a meta that says ", pages, " pages"), plainBytes(of(pages, 0, 0)), 4)
			wantInNoSlot(t, fmt.Sprint("a meta that says ", pages, " pages"), plainBytes(of(pages, 0, 0)), mostPages)
		}
	}
}

func TestP5_3_EveryByteChanged(t *testing.T) {
	r := rand.New(rand.NewSource(55))
	for range 4 {
		m := randomMeta(r)
		p := plainBytes(m)
		for place := range p {
			for _, by := range []byte{1, 2, 0x80, 0xFF, byte(1 + r.Intn(255))} {
				q := bytes.Clone(p)
				q[place] ^= by
				wantInNoSlot(t, fmt.Sprintf("%+v, byte %d changed by %#x", m, place, by), q, m.Pages)
			}
		}
	}
}

func TestP5_3_EveryByteChangedAndTheSumFits(t *testing.T) {
	r := rand.New(rand.NewSource(56))
	for range 4 {
		m := randomMeta(r)
		p := plainBytes(m)
		for place := range p {
			for _, by := range []byte{1, 2, 0x80, 0xFF, byte(1 + r.Intn(255))} {
				q := bytes.Clone(p)
				q[place] ^= by
				what := fmt.Sprintf("%+v, byte %d changed by %#x, and the sum", m, place, by)
				if place < 8 || place >= sumEnd {
					wantInNoSlot(t, what, summed(q), m.Pages)
				}
				if place >= 8 && place < 12 {
					wantNotDecoded(t, what, summed(q), m.Pages, int(m.Txid%2), api.ErrText)
				}
				// Another Root or Txid with the sum that fits is another meta, if it may be.
				for slot := range 2 {
					wantAsPlain(t, what, summed(q), m.Pages, slot)
					wantAsPlain(t, what, summed(q), int(binary.BigEndian.Uint32(q[8:])), slot)
				}
			}
		}
	}
}

func TestP5_3_SumsThatDoNotFit(t *testing.T) {
	m := of(7, 6, 0x0102030405060708)
	p := plainBytes(m)
	bare := bytes.Clone(p)
	clear(bare[sumPlace:sumEnd])
	castagnoli := crc32.MakeTable(crc32.Castagnoli)
	sum := crc32.Checksum(bare, castagnoli)
	for what, other := range map[string]uint32{
		"no sum":                     0,
		"all bits":                   math.MaxUint32,
		"of another polynomial":      crc32.ChecksumIEEE(bare),
		"of the first 24 bytes":      crc32.Checksum(bare[:24], castagnoli),
		"of the first 28 bytes":      crc32.Checksum(bare[:28], castagnoli),
		"of the bytes without its 4": crc32.Checksum(append(bytes.Clone(bare[:24]), bare[28:]...), castagnoli),
		"of the bytes with a sum":    crc32.Checksum(p, castagnoli),
		"the lowest byte first":      sum<<24 | sum>>24 | sum<<8&0xFF0000 | sum>>8&0xFF00,
		"turned":                     ^sum,
		"one more":                   sum + 1,
		"one less":                   sum - 1,
	} {
		q := bytes.Clone(p)
		binary.BigEndian.PutUint32(q[sumPlace:], other)
		wantInNoSlot(t, what, q, 7)
	}
	wantDecode(t, "the sum", p, m)
}

func TestP5_3_AnyBytes(t *testing.T) {
	r := rand.New(rand.NewSource(57))
	valid := 0
	for range 20000 {
		m := randomMeta(r)
		p := plainBytes(m)
		switch r.Intn(4) {
		case 0:
			p = make([]byte, r.Intn(1100))
			r.Read(p)
		case 1:
			p[r.Intn(28)] = byte(r.Intn(256))
			p = summed(p)
		case 2:
			copy(p[8+r.Intn(20):], plainBytes(randomMeta(r))[r.Intn(28):])
		}
		pages := []int{m.Pages, m.Pages, m.Pages, m.Pages + 1, 3, r.Int()}[r.Intn(6)]
		slot := []int{0, 1, 0, 1, -1, 2, r.Int()}[r.Intn(7)]
		wantAsPlain(t, fmt.Sprintf("%d bytes, %d pages, slot %d", len(p), pages, slot), p, pages, slot)
		if _, ok := plainRead(p, pages, slot); ok {
			valid++
		}
	}
	if valid < 1000 {
		t.Errorf("%d of 20000 were valid: the test looks at too few", valid)
	}
}

// ---- P5.4 ----

func TestP5_4_TheGreaterTxid(t *testing.T) {
	none := make([]byte, sectorLen)
	for _, c := range []struct {
		what string
		a, b []byte
		want api.Meta
	}{
		{"6 and 5", plainBytes(at(6)), plainBytes(at(5)), at(6)},
		{"4 and 5", plainBytes(at(4)), plainBytes(at(5)), at(5)},
		{"0 and 1", plainBytes(at(0)), plainBytes(at(1)), at(1)},
		{"2 and 1", plainBytes(at(2)), plainBytes(at(1)), at(2)},
		{"0 and the last", plainBytes(at(0)), plainBytes(at(lastTxid)), at(lastTxid)},
		{"the last but one and the last", plainBytes(at(lastTxid - 1)), plainBytes(at(lastTxid)), at(lastTxid)},
		{"the last but one and 1", plainBytes(at(lastTxid - 1)), plainBytes(at(1)), at(lastTxid - 1)},
		{"the highest bit and below", plainBytes(at(1 << 63)), plainBytes(at(1<<63 - 1)), at(1 << 63)},
		{"below and above the highest bit", plainBytes(at(1<<63 - 2)), plainBytes(at(1<<63 + 1)), at(1<<63 + 1)},
		{"above and below the highest bit", plainBytes(at(1<<63 + 2)), plainBytes(at(3)), at(1<<63 + 2)},
		{"unlike in the upper half alone", plainBytes(at(1 << 32)), plainBytes(at(1<<32 - 1)), at(1 << 32)},
		{"far apart", plainBytes(at(1000)), plainBytes(at(7)), at(1000)},
		{"the greater has no root", plainBytes(of(4, 0, 6)), plainBytes(of(4, 3, 5)), of(4, 0, 6)},
		{"slot 0 alone, zeros", plainBytes(at(4)), none, at(4)},
		{"slot 0 alone, no bytes", plainBytes(at(4)), nil, at(4)},
		{"slot 0 alone, transaction 0", plainBytes(at(0)), none, at(0)},
		{"slot 1 alone, zeros", none, plainBytes(at(5)), at(5)},
		{"slot 1 alone, no bytes", nil, plainBytes(at(5)), at(5)},
		{"slot 0 with one of slot 0 behind it", plainBytes(at(4)), plainBytes(at(6)), at(4)},
		{"slot 1 with one of slot 1 ahead of it", plainBytes(at(7)), plainBytes(at(5)), at(5)},
		{"one of other pages ahead", plainBytes(of(5, 2, 8)), plainBytes(at(5)), at(5)},
		{"one of other pages behind", plainBytes(at(4)), plainBytes(of(5, 2, 9)), at(4)},
		{"one that may not be ahead", plainBytes(of(4, 4, 8)), plainBytes(at(5)), at(5)},
		{"one that is a byte too long behind", plainBytes(at(4)), append(plainBytes(at(5)), 0), at(4)},
	} {
		got, err := meta.Choose(c.a, c.b, 4)
		wantMeta(t, c.what, got, err, c.want)
	}
}

func TestP5_4_NeitherIsValid(t *testing.T) {
	none := make([]byte, sectorLen)
	broken := plainBytes(at(4))
	broken[500] = 1
	for what, c := range map[string][2][]byte{
		"zeros":              {none, none},
		"no bytes":           {nil, nil},
		"in the other slots": {plainBytes(at(5)), plainBytes(at(4))},
		"of other pages":     {plainBytes(of(5, 2, 4)), plainBytes(of(6, 2, 5))},
		"broken and none":    {broken, none},
		"none and broken":    {none, broken},
		"may not be":         {plainBytes(of(4, 1, 4)), plainBytes(of(4, 4, 5))},
		"too short":          {plainBytes(at(4))[:511], plainBytes(at(5))[:511]},
	} {
		got, err := meta.Choose(c[0], c[1], 4)
		wantNone(t, what, got, err, api.ErrCorrupt)
	}
}

func TestP5_4_PagesComeFirst(t *testing.T) {
	for _, pages := range noPages() {
		for what, c := range map[string][2][]byte{
			"metas of 4 pages":    {plainBytes(at(4)), plainBytes(at(5))},
			"metas of such pages": {plainBytes(of(pages, 0, 4)), plainBytes(of(pages, 0, 5))},
			"none":                {nil, nil},
		} {
			got, err := meta.Choose(c[0], c[1], pages)
			wantNone(t, fmt.Sprint(what, " with ", pages), got, err, api.ErrArg)
		}
	}
}

func TestP5_4_AnyTwo(t *testing.T) {
	r := rand.New(rand.NewSource(58))
	for range 5000 {
		m, n := randomMeta(r), randomMeta(r)
		m.Txid, n.Txid = m.Txid&^1, n.Txid|1
		if r.Intn(8) > 0 {
			n.Pages, n.Root = m.Pages, m.Root
		}
		a, b := plainBytes(m), plainBytes(n)
		if r.Intn(6) == 0 {
			a[r.Intn(sectorLen)]++
		}
		if r.Intn(6) == 0 {
			b[r.Intn(sectorLen)]++
		}
		wantChosen(t, a, b, m.Pages)
	}
}

// wantChosen holds Choose against the chapter's words.
func wantChosen(t *testing.T, a, b []byte, pages int) {
	t.Helper()
	got, err := meta.Choose(a, b, pages)
	want, ok := plainChoice(a, b, pages)
	if !ok {
		wantNone(t, "Choose", got, err, api.ErrCorrupt)
		return
	}
	wantMeta(t, "Choose", got, err, want)
}

// plainChoice is the meta that counts, by the chapter's words, if there is one.
func plainChoice(a, b []byte, pages int) (api.Meta, bool) {
	m, mOK := plainRead(a, pages, 0)
	n, nOK := plainRead(b, pages, 1)
	if !mOK || nOK && n.Txid > m.Txid {
		return n, nOK
	}
	return m, mOK
}

// ---- P5.5 ----

// tooSmall are sizes of devices with too few pages. None has too many: the greatest device has just MaxPages pages.
func tooSmall() []int { return []int{-1, 0, 1, 7, 8, 9, 16, 23, 24, 30, 31} }

func TestP5_5_TooFewPages(t *testing.T) {
	for _, size := range tooSmall() {
		d := device.New(size)
		wantNotLoaded(t, fmt.Sprint(size, " sectors"), d, api.ErrCorrupt)
		wantCounts(t, fmt.Sprint(size, " sectors"), d, 0, 0, 0)
		d.Crash(nil)
		wantNotLoaded(t, fmt.Sprint(size, " sectors, dead"), d, api.ErrCorrupt)
	}
	d := onDevice(t, 31, plainBytes(of(3, 0, 0)), plainBytes(of(3, 2, 1)))
	wantNotLoaded(t, "metas of 3 pages on 3 pages", d, api.ErrCorrupt)
	d = onDevice(t, 31, plainBytes(at(0)), plainBytes(at(1)))
	wantNotLoaded(t, "metas of 4 pages on 3 pages", d, api.ErrCorrupt)
	wantCounts(t, "nothing is read", d, 0, 0, 0)
}

func TestP5_5_SectorsLeftOver(t *testing.T) {
	for _, c := range []struct{ size, pages int }{
		{32, 4}, {33, 4}, {39, 4}, {40, 5}, {47, 5}, {48, 6}, {mostSize - 8, mostPages - 1}, {mostSize - 7, mostPages}, {mostSize, mostPages}, {math.MaxInt, mostPages},
	} {
		for _, m := range []api.Meta{of(c.pages, 0, 0), of(c.pages, 2, 1), of(c.pages, c.pages-1, lastTxid)} {
			d := device.New(c.size)
			wantNotLoaded(t, fmt.Sprint(c.size, " zero sectors"), d, api.ErrCorrupt)
			store(t, d, m)
			wantLoad(t, fmt.Sprint(c.size, " sectors"), d, m)
		}
		for _, pages := range []int{c.pages - 1, c.pages + 1} {
			d := onDevice(t, c.size, plainBytes(of(pages, 2, 4)), plainBytes(of(pages, 2, 5)))
			wantNotLoaded(t, fmt.Sprint("metas of ", pages, " pages on ", c.size, " sectors"), d, api.ErrCorrupt)
		}
	}
}

func TestP5_5_ReadsTwoSectorsAndChangesNothing(t *testing.T) {
	d := onDevice(t, 40, plainBytes(of(5, 4, 6)), plainBytes(of(5, 3, 5)))
	wantError(t, "Write", d.Write(16, bytes.Repeat([]byte("x"), 8*sectorLen)), nil)
	store(t, d, of(5, 2, 7))
	d.Arm(0, nil)
	durable, pending := d.Durable(), d.Pending()
	wantLoad(t, "what is pending", d, of(5, 2, 7))
	wantCounts(t, "Load", d, 2, 9, 0)
	if !slices.Equal(d.Durable(), durable) || !slices.Equal(d.Pending(), pending) {
		t.Error("Load has changed the device")
	}
	wantError(t, "the arm still waits", d.Sync(), api.ErrDead)

	d = device.New(40)
	wantNotLoaded(t, "zeros", d, api.ErrCorrupt)
	wantCounts(t, "zeros", d, 2, 0, 0)
	d = onDevice(t, 40, plainBytes(of(5, 4, 6)), make([]byte, sectorLen))
	wantLoad(t, "slot 0 alone", d, of(5, 4, 6))
	wantCounts(t, "slot 0 alone", d, 2, 0, 0)
	d = onDevice(t, 40, make([]byte, sectorLen), plainBytes(of(5, 4, 5)))
	wantLoad(t, "slot 1 alone", d, of(5, 4, 5))
	wantCounts(t, "slot 1 alone", d, 2, 0, 0)
}

func TestP5_5_MetasInOtherSectorsDoNotCount(t *testing.T) {
	m, n := of(5, 2, 4), of(5, 2, 5)
	for sector := range 40 {
		for _, x := range []api.Meta{m, n} {
			d, err := device.Open(40, []api.Sector{{Index: sector, Data: string(plainBytes(x))}})
			if err != nil {
				t.Fatal(err)
			}
			if sector == 8*int(x.Txid%2) {
				wantLoad(t, "in its slot", d, x)
				continue
			}
			wantNotLoaded(t, fmt.Sprint("in sector ", sector), d, api.ErrCorrupt)
		}
	}
}

func TestP5_5_DeadDevices(t *testing.T) {
	d := onDevice(t, 32, plainBytes(at(4)), plainBytes(at(5)))
	d.Crash(nil)
	was := state(d)
	wantNotLoaded(t, "dead", d, api.ErrDead)
	if state(d) != was {
		t.Error("Load has changed a dead device")
	}
	d.Revive()
	wantLoad(t, "revived", d, at(5))
	d = device.New(32)
	d.Crash(nil)
	wantNotLoaded(t, "dead, and zeros", d, api.ErrDead)
}

func TestP5_5_AsChoose(t *testing.T) {
	r := rand.New(rand.NewSource(59))
	for range 1000 {
		m := randomMeta(r)
		n := of(m.Pages, 0, r.Uint64())
		a, b := plainBytes(m), plainBytes(n)
		d := onDevice(t, 8*m.Pages+r.Intn(8), a, b)
		want, wantErr := meta.Choose(a, b, m.Pages)
		if got, err := meta.Load(d); got != want || err != wantErr {
			t.Errorf("Load: %+v, %v, want %+v, %v", got, err, want, wantErr)
		}
	}
}

// ---- P5.6 ----

func TestP5_6_WritesItsSectorAlone(t *testing.T) {
	r := rand.New(rand.NewSource(60))
	for range 500 {
		m := randomMeta(r)
		d := device.New(8*m.Pages + r.Intn(8))
		store(t, d, m)
		want := []api.Sector{{Index: 8 * int(m.Txid%2), Data: string(plainBytes(m))}}
		if !slices.Equal(d.Pending(), want) {
			t.Errorf("Store(%+v): other writes are pending", m)
		}
		if len(d.Durable()) != 0 {
			t.Errorf("Store(%+v): it is durable without a sync", m)
		}
		wantCounts(t, "Store", d, 0, 1, 0)
		wantLoad(t, "Load of what is pending", d, m)
		sync(t, d)
		if !slices.Equal(d.Durable(), want) {
			t.Errorf("Store(%+v): other sectors are durable", m)
		}
	}
}

// wrongMetas are metas that may not be stored on a device of five pages.
func wrongMetas() []api.Meta {
	l := []api.Meta{{}, of(4, 0, 0), of(4, 2, 1), of(6, 0, 0), of(6, 5, 1), of(mostPages, 0, 2), of(1<<32+5, 0, 0)}
	for _, pages := range noPages() {
		l = append(l, of(pages, 0, 2), of(pages, 2, 3))
	}
	for _, root := range noRoots(5) {
		l = append(l, of(5, root, 2), of(5, root, 3))
	}
	return l
}

func TestP5_6_RefusalsWriteNothing(t *testing.T) {
	d := onDevice(t, 40, plainBytes(of(5, 4, 6)), plainBytes(of(5, 3, 5)))
	store(t, d, of(5, 2, 7))
	d.Arm(0, nil)
	was := state(d)
	for _, m := range wrongMetas() {
		wantError(t, fmt.Sprintf("Store(%+v)", m), meta.Store(d, m), api.ErrArg)
	}
	if state(d) != was {
		t.Error("a Store that was refused has changed the device")
	}
	wantError(t, "the arm still waits", d.Sync(), api.ErrDead)
}

func TestP5_6_ThePagesOfTheDevice(t *testing.T) {
	for _, size := range []int{0, 8, 24, 31, 32, 33, 39, 40, 47, 48, mostSize - 8, mostSize - 7, mostSize} {
		for _, pages := range []int{3, 4, 5, 6, mostPages - 1, mostPages, mostPages + 1} {
			d := device.New(size)
			want := api.ErrArg
			if pages == size/8 && pages >= leastPages && pages <= mostPages {
				want = nil
			}
			wantError(t, fmt.Sprint("Store of ", pages, " pages on ", size, " sectors"), meta.Store(d, of(pages, 0, 1)), want)
			if _, w, _ := d.Counts(); w == 0 != (want != nil) {
				t.Errorf("%d pages on %d sectors: %d sectors were written", pages, size, w)
			}
		}
	}
}

func TestP5_6_DeadDevices(t *testing.T) {
	d := device.New(40)
	d.Crash(nil)
	was := state(d)
	wantError(t, "dead", meta.Store(d, of(5, 2, 1)), api.ErrDead)
	for _, m := range wrongMetas() {
		wantError(t, fmt.Sprintf("dead, %+v", m), meta.Store(d, m), api.ErrArg)
	}
	if state(d) != was {
		t.Error("Store has changed a dead device")
	}
	d.Revive()
	wantNotLoaded(t, "what a dead device was asked to store", d, api.ErrCorrupt)
}

func TestP5_6_ArmsThatEndTheWrite(t *testing.T) {
	m := at(5)
	for _, c := range []struct {
		fates []api.Fate
		there bool
	}{
		{nil, false},
		{[]api.Fate{{Index: 0, Kind: api.FateDrop}}, false},
		{[]api.Fate{{Index: 0, Kind: api.FateKeep}}, true},
		{[]api.Fate{{Index: 1, Kind: api.FateKeep}}, false},
		{[]api.Fate{{Index: 0, Kind: api.FateTear, Cut: 24}}, false},
		{[]api.Fate{{Index: 0, Kind: api.FateTear, Cut: 27}}, false},
		{[]api.Fate{{Index: 0, Kind: api.FateTear, Cut: 28}}, true},
		{[]api.Fate{{Index: 0, Kind: api.FateTear, Cut: 28, Junk: "\x00\x01"}}, false},
	} {
		d := device.New(32)
		d.Arm(0, c.fates)
		wantError(t, "Store, at which the power fails", meta.Store(d, m), api.ErrDead)
		wantCounts(t, "one write", d, 0, 1, 0)
		d.Revive()
		if c.there {
			wantLoad(t, fmt.Sprint(c.fates), d, m)
			continue
		}
		wantNotLoaded(t, fmt.Sprint(c.fates), d, api.ErrCorrupt)
	}
	d := device.New(32)
	d.Arm(1, nil)
	store(t, d, m)
	wantError(t, "the operation behind it", d.Sync(), api.ErrDead)
}

func TestP5_6_TheLaterOneOfASlotStays(t *testing.T) {
	d := device.New(39)
	for _, m := range []api.Meta{of(4, 0, 8), of(4, 2, 4), of(4, 3, 4)} {
		store(t, d, m)
		wantLoad(t, "Load", d, m)
	}
	if n := len(d.Pending()); n != 3 {
		t.Errorf("%d writes are pending, want 3", n)
	}
}

// ---- P5.7 ----

func TestP5_7_WritesZerosToTheSlotAlone(t *testing.T) {
	full := bytes.Repeat([]byte("x"), 40*sectorLen)
	for slot := range 2 {
		d := device.New(40)
		wantError(t, "Write", d.Write(0, full), nil)
		sync(t, d)
		wantError(t, "Wipe", meta.Wipe(d, slot), nil)
		want := []api.Sector{{Index: 8 * slot, Data: string(make([]byte, sectorLen))}}
		if !slices.Equal(d.Pending(), want) {
			t.Errorf("Wipe(%d): other writes are pending", slot)
		}
		if len(d.Durable()) != 40 {
			t.Errorf("Wipe(%d): it is durable without a sync", slot)
		}
		wantCounts(t, "Wipe", d, 0, 41, 1)
		sync(t, d)
		if slices.ContainsFunc(d.Durable(), func(x api.Sector) bool { return x.Index == 8*slot }) || len(d.Durable()) != 39 {
			t.Errorf("Wipe(%d): other sectors were wiped", slot)
		}
	}
}

func TestP5_7_AWipedSlotIsNotValid(t *testing.T) {
	for _, c := range []struct{ size, pages int }{{32, 4}, {39, 4}, {40, 5}, {mostSize, mostPages}} {
		d := device.New(c.size)
		m, n := of(c.pages, 2, 4), of(c.pages, 3, 5)
		store(t, d, m)
		store(t, d, n)
		sync(t, d)
		wantError(t, "Wipe", meta.Wipe(d, 1), nil)
		wantNotDecoded(t, "slot 1", slotBytes(t, d, 1), c.pages, 1, api.ErrText)
		wantLoad(t, "behind a Wipe of slot 1", d, m)
		wantError(t, "Wipe", meta.Wipe(d, 0), nil)
		wantNotLoaded(t, "behind a Wipe of both", d, api.ErrCorrupt)
		store(t, d, n)
		wantLoad(t, "stored again", d, n)
		wantError(t, "Wipe of a slot that is wiped", meta.Wipe(d, 0), nil)
		wantLoad(t, "behind a Wipe of slot 0", d, n)
	}
}

func TestP5_7_RefusalsWriteNothing(t *testing.T) {
	d := onDevice(t, 40, plainBytes(of(5, 4, 6)), plainBytes(of(5, 3, 5)))
	store(t, d, of(5, 2, 7))
	d.Arm(0, nil)
	was := state(d)
	for _, slot := range noSlots() {
		wantError(t, fmt.Sprint("Wipe of slot ", slot), meta.Wipe(d, slot), api.ErrArg)
	}
	if state(d) != was {
		t.Error("a Wipe that was refused has changed the device")
	}
	wantError(t, "the arm still waits", d.Sync(), api.ErrDead)
	for _, slot := range noSlots() {
		wantError(t, fmt.Sprint("dead, Wipe of slot ", slot), meta.Wipe(d, slot), api.ErrArg)
	}
	for _, size := range tooSmall() {
		small := device.New(size)
		for slot := -1; slot < 3; slot++ {
			wantError(t, fmt.Sprint("Wipe of slot ", slot, " on ", size, " sectors"), meta.Wipe(small, slot), api.ErrArg)
		}
		wantCounts(t, fmt.Sprint(size, " sectors"), small, 0, 0, 0)
		small.Crash(nil)
		wantError(t, fmt.Sprint("Wipe on ", size, " sectors, dead"), meta.Wipe(small, 0), api.ErrArg)
	}
}

func TestP5_7_DeadDevicesAndArms(t *testing.T) {
	d := onDevice(t, 32, plainBytes(at(4)), plainBytes(at(5)))
	d.Crash(nil)
	was := state(d)
	for slot := range 2 {
		wantError(t, "dead", meta.Wipe(d, slot), api.ErrDead)
	}
	if state(d) != was {
		t.Error("Wipe has changed a dead device")
	}
	d.Revive()
	wantLoad(t, "what a dead device was asked to wipe", d, at(5))

	d.Arm(0, nil)
	wantError(t, "Wipe, at which the power fails", meta.Wipe(d, 1), api.ErrDead)
	wantCounts(t, "one write", d, 2, 1, 0)
	d.Revive()
	wantLoad(t, "the Wipe is lost", d, at(5))

	d.Arm(0, []api.Fate{{Index: 0, Kind: api.FateKeep}})
	wantError(t, "Wipe, at which the power fails", meta.Wipe(d, 1), api.ErrDead)
	d.Revive()
	wantLoad(t, "the Wipe is there", d, at(4))

	d.Arm(0, []api.Fate{{Index: 0, Kind: api.FateTear, Cut: 3, Junk: string(plainBytes(at(4))[3:])}})
	wantError(t, "Wipe, at which the power fails", meta.Wipe(d, 0), api.ErrDead)
	d.Revive()
	wantNotLoaded(t, "three bytes of the Wipe are there", d, api.ErrCorrupt)
}

// ---- P5.8 ----

func TestP5_8_GivesBack(t *testing.T) {
	r := rand.New(rand.NewSource(61))
	for range 3000 {
		m := randomMeta(r)
		p := encode(t, m)
		wantDecode(t, "Decode of Encode", p, m)
		q := plainBytes(m)
		if got, err := meta.Decode(q, m.Pages, meta.Slot(m.Txid)); err != nil || !bytes.Equal(encode(t, got), q) {
			t.Errorf("Encode of Decode of %+v: %+v, %v", m, got, err)
		}
	}
}

// bursts are the places at which n bytes that follow one another stand all outside of the sum, or all within.
func bursts(n int) []int {
	var l []int
	for first := 0; first+n <= sectorLen; first++ {
		if first+n <= sumPlace || first >= sumEnd || first >= sumPlace && first+n <= sumEnd {
			l = append(l, first)
		}
	}
	return l
}

func TestP5_8_UpToFourBytesChanged(t *testing.T) {
	r := rand.New(rand.NewSource(62))
	metas := []api.Meta{of(4, 0, 0), of(mostPages, mostPages-1, lastTxid), randomMeta(r)}
	for _, m := range metas {
		p := plainBytes(m)
		for n := 1; n <= 4; n++ {
			for _, first := range bursts(n) {
				for _, pattern := range []uint32{1, 1<<32 - 1, 0x01010101, 0x80808080, r.Uint32() | 0x01010101, r.Uint32() | 0x80000000} {
					wantTurnedNone(t, m, p, first, n, pattern)
				}
			}
		}
	}
}

// wantTurnedNone changes n bytes from that place on, by the bytes of the pattern.
func wantTurnedNone(t *testing.T, m api.Meta, p []byte, first, n int, pattern uint32) {
	t.Helper()
	q := bytes.Clone(p)
	for i := range n {
		q[first+i] ^= byte(pattern >> (8 * i))
	}
	if bytes.Equal(q, p) {
		return
	}
	wantInNoSlot(t, fmt.Sprintf("%+v, %d bytes from %d on changed by %#x", m, n, first, pattern), q, m.Pages)
}

func TestP5_8_OtherNumbersThatMayBe(t *testing.T) {
	m := of(1000, 500, 4)
	p := plainBytes(m)
	for what, n := range map[string]api.Meta{
		"Pages": of(1001, 500, 4), "many Pages": of(mostPages, 500, 4), "Root": of(1000, 501, 4), "no Root": of(1000, 0, 4),
		"Txid": of(1000, 500, 6), "the Txid of the other slot": of(1000, 500, 5), "the upper half of Txid": of(1000, 500, 1<<40+4),
	} {
		q := plainBytes(n)
		copy(q[sumPlace:sumEnd], p[sumPlace:sumEnd])
		wantInNoSlot(t, what+" changed, and not the sum", q, 1000)
		q = bytes.Clone(p)
		copy(q[sumPlace:sumEnd], plainBytes(n)[sumPlace:sumEnd])
		wantInNoSlot(t, "the sum of another "+what, q, 1000)
	}
}

func TestP5_8_AStoreChangesNothingOfTheOtherSlot(t *testing.T) {
	r := rand.New(rand.NewSource(63))
	for range 300 {
		there, fresh := randomMeta(r), randomMeta(r)
		fresh.Pages, fresh.Root = there.Pages, there.Root
		fresh.Txid = fresh.Txid&^1 | (there.Txid&1 ^ 1)
		d := device.New(8 * there.Pages)
		slot := int(there.Txid % 2)
		if r.Intn(4) > 0 {
			store(t, d, there)
		}
		was := slotBytes(t, d, slot)
		before, errBefore := meta.Decode(was, there.Pages, slot)
		store(t, d, fresh)
		now := slotBytes(t, d, slot)
		if after, err := meta.Decode(now, there.Pages, slot); after != before || err != errBefore || !bytes.Equal(now, was) {
			t.Errorf("Store(%+v) has changed what is said of slot %d: %+v, %v", fresh, slot, after, err)
		}
	}
}

// fatesOf are fates of one pending write: lost, there, and torn, at places of all kinds, with zeros, what stood there, or junk behind.
func fatesOf(r *rand.Rand, stood []byte) []api.Fate {
	l := []api.Fate{{Kind: api.FateDrop}, {Kind: api.FateKeep}}
	for cut := range sectorLen + 1 {
		if cut > 40 && cut%37 != 0 && cut < 510 {
			continue
		}
		junk := make([]byte, sectorLen-cut)
		r.Read(junk)
		for _, behind := range []string{"", string(stood[cut:]), string(junk)} {
			l = append(l, api.Fate{Kind: api.FateTear, Cut: cut, Junk: behind})
		}
	}
	return l
}

// wantOldOrNew asks a device behind a failure for the last meta that was synced, or the one behind it, as what lies there says.
func wantOldOrNew(t *testing.T, what string, d *device.Device, old, fresh api.Meta) {
	t.Helper()
	d.Revive()
	got, err := meta.Load(d)
	want, ok := plainChoice(slotBytes(t, d, 0), slotBytes(t, d, 1), fresh.Pages)
	if !ok && old == noMeta {
		wantNone(t, what, got, err, api.ErrCorrupt)
		return
	}
	wantMeta(t, what, got, err, want)
	if got != old && got != fresh {
		t.Errorf("%s: %+v, want %+v or %+v", what, got, old, fresh)
	}
}

// failAtEach stores a meta on devices like d, and lets the power fail at each place with each fate.
func failAtEach(t *testing.T, r *rand.Rand, d *device.Device, old, fresh api.Meta) {
	t.Helper()
	for _, f := range fatesOf(r, slotBytes(t, d, int(fresh.Txid%2))) {
		e := again(t, d)
		store(t, e, fresh)
		e.Crash([]api.Fate{f})
		wantOldOrNew(t, "ahead of the sync", e, old, fresh)

		e = again(t, d)
		e.Arm(0, []api.Fate{f})
		wantError(t, "Store, at which the power fails", meta.Store(e, fresh), api.ErrDead)
		wantOldOrNew(t, "at the write", e, old, fresh)
	}
	e := again(t, d)
	e.Arm(1, nil)
	store(t, e, fresh)
	wantError(t, "Sync, at which the power fails", e.Sync(), api.ErrDead)
	e.Revive()
	wantLoad(t, "at the sync, which has made it durable", e, fresh)
}

func TestP5_8_StoredInTurnsTheLastSyncedOneCounts(t *testing.T) {
	r := rand.New(rand.NewSource(64))
	for _, first := range []uint64{0, 1, 255, 1<<32 - 3, 1<<63 - 3, lastTxid - 5} {
		d := device.New(8*70 + r.Intn(8))
		old := noMeta
		for i := range uint64(6) {
			fresh := of(70, []int{0, 2, 69, 2 + r.Intn(68)}[r.Intn(4)], first+i)
			failAtEach(t, r, d, old, fresh)
			store(t, d, fresh)
			sync(t, d)
			d.Crash(nil)
			d.Revive()
			wantLoad(t, "what was synced", d, fresh)
			old = fresh
		}
	}
}

// ---- P5.9 ----

func TestP5_9_WhatIsHandedInIsNotChangedNorKept(t *testing.T) {
	m, n := at(4), at(5)
	a, b := append(plainBytes(m), "room behind it"...), append(plainBytes(n), "room behind that"...)
	wasA, wasB := bytes.Clone(a), bytes.Clone(b)
	decoded, errDecoded := meta.Decode(a[:sectorLen], 4, 0)
	chosen, errChosen := meta.Choose(a[:sectorLen], b[:sectorLen], 4)
	for slot := -1; slot < 3; slot++ {
		for _, pages := range []int{3, 4, 5} {
			meta.Decode(a[:sectorLen], pages, slot)
			meta.Decode(b[:sectorLen-1], pages, slot)
			meta.Choose(b[:sectorLen], a[:sectorLen], pages)
		}
	}
	if !bytes.Equal(a, wasA) || !bytes.Equal(b, wasB) {
		t.Error("bytes that were handed in, or the room behind them, were changed")
	}
	clear(a)
	clear(b)
	wantMeta(t, "Decode, behind a change of the bytes", decoded, errDecoded, m)
	wantMeta(t, "Choose, behind a change of the bytes", chosen, errChosen, n)
	wantNotDecoded(t, "the changed bytes", a[:sectorLen], 4, 0, api.ErrText)
}

func TestP5_9_WhatIsAnsweredIsNewMemory(t *testing.T) {
	m := of(70, 69, 0x1122334455667788)
	want := plainBytes(m)
	first, second := encode(t, m), encode(t, m)
	_ = append(first, "behind"...)
	for i := range first[:cap(first)] {
		first[:cap(first)][i] = 0xEE
	}
	if !bytes.Equal(second, want) || !bytes.Equal(encode(t, m), want) {
		t.Error("to write into a meta's bytes has changed another's")
	}
	wantDecode(t, "Decode", want, m)
	d := device.New(8 * 70)
	store(t, d, m)
	if got := slotBytes(t, d, 0); !bytes.Equal(got, want) {
		t.Error("to write into a meta's bytes has changed what is stored")
	}
	wantError(t, "Wipe", meta.Wipe(d, 0), nil)
	if got := slotBytes(t, d, 0); !bytes.Equal(got, make([]byte, sectorLen)) {
		t.Error("to write into a meta's bytes has changed what is wiped")
	}
}

func TestP5_9_TheSameCallsTheSameAnswers(t *testing.T) {
	r := rand.New(rand.NewSource(65))
	for range 200 {
		m := randomMeta(r)
		d, e := device.New(8*m.Pages), device.New(8*m.Pages)
		for _, x := range []*device.Device{d, e} {
			store(t, x, m)
			wantError(t, "Wipe", meta.Wipe(x, int(1-m.Txid%2)), nil)
			wantLoad(t, "Load", x, m)
		}
		if state(d) != state(e) {
			t.Errorf("%+v: two devices that saw the same calls are unlike", m)
		}
	}
}

// ---- the chapter's table ----

func TestExamples(t *testing.T) {
	for txid, want := range map[uint64]int{0: 0, 1: 1, lastTxid: 1} {
		if got := meta.Slot(txid); got != want {
			t.Errorf("Slot(%d) = %d", txid, got)
		}
	}
	m := of(4, 0, 0)
	p := encode(t, m)
	head := "\x43\x4F\x50\x53\x45\x00\x01\x00" + "\x00\x00\x00\x04" + "\x00\x00\x00\x00\x00\x00\x00\x00\x00\x00\x00\x00"
	if !bytes.Equal(p, summed(append([]byte(head), make([]byte, 4+484)...))) {
		t.Errorf("Encode: % x", p)
	}
	for _, wrong := range []api.Meta{of(3, 0, 0), of(1048577, 0, 0), of(4, 1, 0), of(4, 4, 0), of(4, -1, 0)} {
		wantNoBytes(t, wrong)
	}
	wantDecode(t, "Decode(these bytes, 4, 0)", p, m)
	wantNotDecoded(t, "Decode(.., 4, 1)", p, 4, 1, api.ErrText)
	wantNotDecoded(t, "Decode(.., 5, 0)", p, 5, 0, api.ErrText)
	wantNotDecoded(t, "Decode(.., 3, 0)", p, 3, 0, api.ErrArg)
	zeros := make([]byte, 512)
	wantNotDecoded(t, "Decode(no bytes, 4, 0)", nil, 4, 0, api.ErrText)
	wantNotDecoded(t, "Decode(512 zeros, 4, 0)", zeros, 4, 0, api.ErrText)

	got, err := meta.Choose(encode(t, at(6)), encode(t, at(5)), 4)
	wantMeta(t, "Choose(Txid 6, Txid 5)", got, err, at(6))
	got, err = meta.Choose(encode(t, at(4)), encode(t, at(5)), 4)
	wantMeta(t, "Choose(Txid 4, Txid 5)", got, err, at(5))
	got, err = meta.Choose(zeros, encode(t, at(5)), 4)
	wantMeta(t, "Choose(zeros, Txid 5)", got, err, at(5))
	got, err = meta.Choose(zeros, zeros, 4)
	wantNone(t, "Choose(zeros, zeros)", got, err, api.ErrCorrupt)

	wantNotLoaded(t, "Load of 31 sectors", device.New(31), api.ErrCorrupt)
	wantNotLoaded(t, "Load of 32 zero sectors", device.New(32), api.ErrCorrupt)
	d := device.New(39)
	store(t, d, at(1))
	wantLoad(t, "Load behind Store on 39 sectors", d, at(1))
	wantError(t, "Store of 4 pages on 40 sectors", meta.Store(device.New(40), at(1)), api.ErrArg)
}
