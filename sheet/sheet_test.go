package sheet_test

import (
	"bytes"
	"encoding/binary"
	"fmt"
	"hash/crc32"
	"math"
	"math/rand"
	"slices"
	"strings"
	"testing"
	"unsafe"

	"copse/api"
	"copse/device"
	"copse/sheet"
)

const (
	branch   = 0x42
	leaf     = 0x4C
	lastID   = 1048575
	pageLen  = 4096
	bodyLen  = 4072
	sumPlace = 16
)

// zeros is the chapter's Z.
var zeros = strings.Repeat("\x00", bodyLen)

// example is the sheet of the chapter's first example.
func example() api.Sheet { return api.Sheet{Kind: leaf, ID: 2, Txid: 5, Count: 1, Body: zeros} }

// randomBody is a body with unlike bytes, so that one in another's place is seen.
func randomBody(r *rand.Rand) string {
	p := make([]byte, bodyLen)
	r.Read(p)
	return string(p)
}

// randomSheet is a sheet that may be, often with numbers at their edges.
func randomSheet(r *rand.Rand) api.Sheet {
	pick := func(l ...int) int { return l[r.Intn(len(l))] }
	txids := []uint64{0, 1, 1<<32 + 7, math.MaxUint64, r.Uint64(), r.Uint64()}
	return api.Sheet{
		Kind:  pick(branch, leaf),
		ID:    pick(2, 3, 255, 256, 65537, lastID, 2+r.Intn(lastID-1)),
		Txid:  txids[r.Intn(len(txids))],
		Count: pick(0, 1, 255, 256, 65535, r.Intn(65536)),
		Body:  randomBody(r),
	}
}

// summed is the page with the sum that fits, made by the library.
func summed(p []byte) []byte {
	q := bytes.Clone(p)
	clear(q[sumPlace : sumPlace+4])
	binary.BigEndian.PutUint32(q[sumPlace:], crc32.Checksum(q, crc32.MakeTable(crc32.Castagnoli)))
	return q
}

// plainPage is the chapter's table, written by the library.
func plainPage(s api.Sheet) []byte {
	var p []byte
	p = append(p, byte(s.Kind), 0)
	p = binary.BigEndian.AppendUint16(p, uint16(s.Count))
	p = binary.BigEndian.AppendUint32(p, uint32(s.ID))
	p = binary.BigEndian.AppendUint64(p, s.Txid)
	p = append(p, make([]byte, 8)...)
	return summed(append(p, s.Body...))
}

func tell(s api.Sheet) string {
	return fmt.Sprintf("{Kind %#x, ID %d, Txid %d, Count %d, %d bytes}", s.Kind, s.ID, s.Txid, s.Count, len(s.Body))
}

func wantError(t *testing.T, what string, got, want error) {
	t.Helper()
	if got != want {
		t.Errorf("%s: %v, want %v", what, got, want)
	}
}

// seal is a page that must be.
func seal(t *testing.T, s api.Sheet) []byte {
	t.Helper()
	p, err := sheet.Seal(s)
	if err != nil || len(p) != pageLen {
		t.Fatalf("Seal(%s): %d bytes, %v", tell(s), len(p), err)
	}
	return p
}

func wantNoPage(t *testing.T, what string, s api.Sheet) {
	t.Helper()
	if p, err := sheet.Seal(s); len(p) != 0 || err != api.ErrArg {
		t.Errorf("%s: Seal(%s): %d bytes, %v, want none, ErrArg", what, tell(s), len(p), err)
	}
}

func wantSheet(t *testing.T, what string, got api.Sheet, err error, want api.Sheet) {
	t.Helper()
	if got != want || err != nil {
		t.Errorf("%s: %s, %v, want %s", what, tell(got), err, tell(want))
	}
}

func wantNone(t *testing.T, what string, got api.Sheet, err, want error) {
	t.Helper()
	if got != (api.Sheet{}) || err != want {
		t.Errorf("%s: %s, %v, want the zero sheet, %v", what, tell(got), err, want)
	}
}

func wantNotRead(t *testing.T, what string, p []byte, id int) {
	t.Helper()
	got, err := sheet.Read(p, id)
	wantNone(t, what, got, err, api.ErrText)
}

func store(t *testing.T, d *device.Device, s api.Sheet) {
	t.Helper()
	wantError(t, "Store", sheet.Store(d, s), nil)
}

func wantLoad(t *testing.T, what string, d *device.Device, want api.Sheet) {
	t.Helper()
	got, err := sheet.Load(d, want.ID)
	wantSheet(t, what, got, err, want)
}

func wantNotLoaded(t *testing.T, what string, d *device.Device, id int, want error) {
	t.Helper()
	got, err := sheet.Load(d, id)
	wantNone(t, what, got, err, want)
}

// state is all that a device tells of itself.
func state(d *device.Device) string {
	r, w, s := d.Counts()
	return fmt.Sprint(d.Size(), d.Dead(), r, w, s, d.Durable(), d.Pending())
}

// ---- P4.1 ----

func TestP4_1_EveryByteWhereItStands(t *testing.T) {
	body := "first" + zeros[:bodyLen-9] + "last"
	p := seal(t, api.Sheet{Kind: 0x42, ID: 0x0B0C0D, Txid: 0x1112131415161718, Count: 0x2122, Body: body})
	for _, c := range []struct {
		what  string
		place int
		want  string
	}{
		{"Kind", 0, "\x42"},
		{"the zero byte", 1, "\x00"},
		{"Count", 2, "\x21\x22"},
		{"ID", 4, "\x00\x0B\x0C\x0D"},
		{"Txid", 8, "\x11\x12\x13\x14\x15\x16\x17\x18"},
		{"the four zero bytes", 20, "\x00\x00\x00\x00"},
		{"Body", 24, body},
	} {
		if got := string(p[c.place : c.place+len(c.want)]); got != c.want {
			t.Errorf("%s: % x, want % x", c.what, got[:min(8, len(got))], c.want[:min(8, len(c.want))])
		}
	}
	if !bytes.Equal(p, summed(p)) {
		t.Errorf("the sum: % x, want % x", p[16:20], summed(p)[16:20])
	}
}

func TestP4_1_Pages(t *testing.T) {
	r := rand.New(rand.NewSource(41))
	for range 2000 {
		s := randomSheet(r)
		if p := seal(t, s); !bytes.Equal(p, plainPage(s)) {
			t.Fatalf("Seal(%s): % x, want % x", tell(s), p[:24], plainPage(s)[:24])
		}
	}
}

func TestP4_1_Kinds(t *testing.T) {
	s := example()
	kinds := []int{-1, 256, 256 + leaf, 256 + branch, -256 + leaf, 1<<32 + leaf, 1<<62 + branch, -leaf, math.MinInt, math.MaxInt}
	for kind := range 256 {
		kinds = append(kinds, kind)
	}
	for _, kind := range kinds {
		s.Kind = kind
		if kind == branch || kind == leaf {
			seal(t, s)
			continue
		}
		wantNoPage(t, "Kind", s)
	}
}

func TestP4_1_IDs(t *testing.T) {
	s := example()
	for _, id := range []int{2, 3, lastID - 1, lastID} {
		s.ID = id
		seal(t, s)
	}
	for _, id := range []int{1, 0, -1, -2, lastID + 1, lastID + 2, 1 << 31, 1<<32 + 2, 1 << 60, math.MinInt, math.MaxInt} {
		s.ID = id
		wantNoPage(t, "ID", s)
	}
}

func TestP4_1_Counts(t *testing.T) {
	s := example()
	for _, count := range []int{0, 1, 65534, 65535} {
		s.Count = count
		seal(t, s)
	}
	for _, count := range []int{-1, -65536, 65536, 65537, 1 << 32, math.MinInt, math.MaxInt} {
		s.Count = count
		wantNoPage(t, "Count", s)
	}
}

func TestP4_1_Bodies(t *testing.T) {
	s := example()
	for _, n := range []int{0, 1, bodyLen - 1, bodyLen + 1, pageLen, 2 * bodyLen} {
		s.Body = strings.Repeat("b", n)
		wantNoPage(t, "Body", s)
	}
}

func TestP4_1_AnyTxid(t *testing.T) {
	s := example()
	for _, txid := range []uint64{0, 1, 1 << 31, 1 << 32, 1 << 63, math.MaxUint64 - 1, math.MaxUint64} {
		s.Txid = txid
		if p := seal(t, s); binary.BigEndian.Uint64(p[8:]) != txid {
			t.Errorf("Txid %d: % x", txid, p[8:16])
		}
	}
}

func TestP4_1_TheZeroSheetAndSeveralFaults(t *testing.T) {
	wantNoPage(t, "the zero sheet", api.Sheet{})
	wantNoPage(t, "all wrong", api.Sheet{Kind: -1, ID: -1, Count: -1, Body: "x"})
}

// ---- P4.2 ----

func TestP4_2_ReadsWhatWasSealed(t *testing.T) {
	r := rand.New(rand.NewSource(42))
	for range 2000 {
		s := randomSheet(r)
		got, err := sheet.Read(plainPage(s), s.ID)
		wantSheet(t, "Read", got, err, s)
	}
}

func TestP4_2_TheEdgesOfWhatMayBe(t *testing.T) {
	for _, kind := range []int{branch, leaf} {
		for _, id := range []int{2, lastID} {
			for _, count := range []int{0, 65535} {
				for _, txid := range []uint64{0, math.MaxUint64} {
					s := api.Sheet{Kind: kind, ID: id, Txid: txid, Count: count, Body: zeros}
					got, err := sheet.Read(plainPage(s), id)
					wantSheet(t, "Read", got, err, s)
				}
			}
		}
	}
}

func TestP4_2_Lengths(t *testing.T) {
	p := plainPage(example())
	long := append(bytes.Clone(p), p...)
	for _, n := range []int{0, 1, 15, 16, 20, 23, 24, 25, bodyLen, pageLen - 1, pageLen + 1, 2*pageLen - 1, 2 * pageLen} {
		wantNotRead(t, fmt.Sprint(n, " bytes"), long[:n], 2)
	}
	wantNotRead(t, "no bytes", nil, 2)
	wantNotRead(t, "no bytes, and no page's number", nil, 0)
}

func TestP4_2_ShortAndLongBytesWhoseSumFits(t *testing.T) {
	s := example()
	for _, n := range []int{0, bodyLen - 1, bodyLen + 1} {
		s.Body = strings.Repeat("b", n)
		wantNotRead(t, fmt.Sprint("a body of ", n), plainPage(s), 2)
	}
}

func TestP4_2_KindsWhoseSumFits(t *testing.T) {
	s := example()
	for kind := range 256 {
		s.Kind = kind
		if kind == branch || kind == leaf {
			got, err := sheet.Read(plainPage(s), 2)
			wantSheet(t, "Read", got, err, s)
			continue
		}
		wantNotRead(t, fmt.Sprint("Kind ", kind), plainPage(s), 2)
	}
}

// noPages are numbers that no page of a sheet has.
func noPages() []int {
	return []int{1, 0, -1, -2, 1 << 20, 1<<20 + 2, 1 << 31, 1<<32 - 1, 1 << 32, 1<<32 + 2, math.MinInt, math.MaxInt}
}

func TestP4_2_IDsThatAreNoPagesNumber(t *testing.T) {
	p := plainPage(example())
	for _, id := range noPages() {
		wantNotRead(t, fmt.Sprint("asked for ", id), p, id)
		s := example()
		s.ID = id // of which the page says the lowest 32 bits
		wantNotRead(t, fmt.Sprint("a page that says ", id), plainPage(s), id)
		if id&(1<<32-1) != 2 {
			wantNotRead(t, fmt.Sprint("a page that says ", id, ", asked for 2"), plainPage(s), 2)
		}
	}
}

func TestP4_2_ZeroBytesOfTheHead(t *testing.T) {
	p := plainPage(example())
	for _, place := range []int{1, 20, 21, 22, 23} {
		for b := 1; b < 256; b++ {
			q := bytes.Clone(p)
			q[place] = byte(b)
			wantNotRead(t, fmt.Sprintf("byte %d is %#x", place, b), q, 2)
			wantNotRead(t, fmt.Sprintf("byte %d is %#x, and the sum fits", place, b), summed(q), 2)
		}
	}
}

func TestP4_2_OtherSums(t *testing.T) {
	s := example()
	p := plainPage(s)
	for bit := range 32 {
		q := bytes.Clone(p)
		q[sumPlace+bit/8] ^= 1 << (bit % 8)
		wantNotRead(t, fmt.Sprint("bit ", bit, " of the sum turned"), q, 2)
	}
	turned := bytes.Clone(p)
	slices.Reverse(turned[16:20])
	wantNotRead(t, "the sum's lowest byte first", turned, 2)
	none := bytes.Clone(p)
	clear(none[16:20])
	wantNotRead(t, "a sum of zeros", none, 2)
	// The sum of the whole page, its own old bytes with it.
	over := bytes.Clone(p)
	binary.BigEndian.PutUint32(over[16:], crc32.Checksum(p, crc32.MakeTable(crc32.Castagnoli)))
	wantNotRead(t, "a sum over a sum", over, 2)
	wantNotRead(t, "zeros alone", make([]byte, pageLen), 2)
	wantNotRead(t, "zeros alone, as page 0", make([]byte, pageLen), 0)
	wantNotRead(t, "zeros whose sum fits", summed(make([]byte, pageLen)), 0)
}

// plainMayBe is the chapter's words on the head of 4096 bytes.
func plainMayBe(p []byte, id int) bool {
	said := int(binary.BigEndian.Uint32(p[4:]))
	zero := p[1] == 0 && bytes.Equal(p[20:24], make([]byte, 4))
	return (p[0] == branch || p[0] == leaf) && said == id && id >= 2 && id <= lastID && zero && bytes.Equal(p, summed(p))
}

func TestP4_2_AnyHead(t *testing.T) {
	r := rand.New(rand.NewSource(43))
	read, refused := 0, 0
	for range 20000 {
		p := plainPage(randomSheet(r))
		for range r.Intn(3) {
			p[r.Intn(24)] = byte(r.Intn(3))
		}
		if r.Intn(5) > 0 {
			p = summed(p)
		}
		id := int(binary.BigEndian.Uint32(p[4:]))
		s, err := sheet.Read(p, id)
		if !plainMayBe(p, id) {
			wantNone(t, fmt.Sprintf("Read(% x .., %d)", p[:24], id), s, err, api.ErrText)
			refused++
			continue
		}
		read++
		want := api.Sheet{Kind: int(p[0]), ID: id, Txid: binary.BigEndian.Uint64(p[8:]), Count: int(p[2])<<8 | int(p[3]), Body: string(p[24:])}
		wantSheet(t, "Read", s, err, want)
	}
	if read < 2000 || refused < 2000 {
		t.Errorf("%d were pages, %d were none: the test looks at too few", read, refused)
	}
}

func TestP4_2_NoisesAreNoPages(t *testing.T) {
	r := rand.New(rand.NewSource(44))
	for range 500 {
		p := make([]byte, pageLen-2+r.Intn(5))
		r.Read(p)
		for _, id := range []int{2, 3, lastID, r.Int(), -r.Int()} {
			wantNotRead(t, "noise", p, id)
		}
	}
}

// ---- P4.3 ----

// onDevice is a device of so many sectors on which bytes lie durably from a sector on.
func onDevice(t *testing.T, size, sector int, p []byte) *device.Device {
	t.Helper()
	d := device.New(size)
	if err := d.Write(sector, p); err != nil {
		t.Fatal(err)
	}
	if err := d.Sync(); err != nil {
		t.Fatal(err)
	}
	return d
}

func TestP4_3_LoadsThePagesEightSectors(t *testing.T) {
	r := rand.New(rand.NewSource(45))
	for _, id := range []int{2, 3, 7, 1000, lastID} {
		s := randomSheet(r)
		s.ID = id
		d := onDevice(t, 8*id+8, 8*id, plainPage(s))
		wantLoad(t, fmt.Sprint("Load of page ", id), d, s)
	}
}

func TestP4_3_TooFewSectors(t *testing.T) {
	for _, id := range []int{2, 3, 7, lastID} {
		for _, size := range []int{8*id + 7, 8*id + 1, 8 * id, 8*id - 1, 8, 1, 0} {
			d := device.New(size)
			wantNotLoaded(t, fmt.Sprint("Load of page ", id, " of ", size, " sectors"), d, id, api.ErrArg)
			if r, _, _ := d.Counts(); r != 0 {
				t.Errorf("%d sectors were read", r)
			}
		}
		wantNotLoaded(t, fmt.Sprint("just enough, page ", id), device.New(8*id+8), id, api.ErrText)
	}
	wantNotLoaded(t, "the greatest device's last page", device.New(api.MaxSectors), lastID, api.ErrText)
}

func TestP4_3_IDsOutOfTheirPlace(t *testing.T) {
	d := device.New(api.MaxSectors)
	for _, id := range append(noPages(), 1<<60, 1<<61, 1<<61+2, 1<<62) {
		wantNotLoaded(t, fmt.Sprint("Load of page ", id), d, id, api.ErrArg)
	}
	if r, w, s := d.Counts(); r != 0 || w != 0 || s != 0 {
		t.Error("an operation was done")
	}
}

func TestP4_3_PagesZeroAndOneAreNoneWhateverLiesThere(t *testing.T) {
	for _, id := range []int{0, 1} {
		s := example()
		s.ID = id
		wantNotLoaded(t, "Load", onDevice(t, 32, 8*id, plainPage(s)), id, api.ErrArg)
	}
}

func TestP4_3_WhatLiesThereIsNone(t *testing.T) {
	d := device.New(64)
	wantNotLoaded(t, "zeros", d, 2, api.ErrText)
	p := plainPage(example())
	wantNotLoaded(t, "the page of another", onDevice(t, 64, 24, p), 3, api.ErrText)
	wantNotLoaded(t, "a page that lies a sector below its own", onDevice(t, 64, 15, p), 2, api.ErrText)
	wantNotLoaded(t, "a page that lies a sector above its own", onDevice(t, 64, 17, p), 2, api.ErrText)
	p[pageLen-1] ^= 1
	wantNotLoaded(t, "a page with a turned bit", onDevice(t, 64, 16, p), 2, api.ErrText)
}

func TestP4_3_DeadDevices(t *testing.T) {
	d := onDevice(t, 24, 16, plainPage(example()))
	d.Crash(nil)
	was := state(d)
	wantNotLoaded(t, "dead", d, 2, api.ErrDead)
	for _, id := range append(noPages(), 3) {
		wantNotLoaded(t, fmt.Sprint("dead, and page ", id, " is none of its own"), d, id, api.ErrArg)
	}
	if state(d) != was {
		t.Error("Load has changed a dead device")
	}
	small := device.New(23)
	small.Crash(nil)
	wantNotLoaded(t, "dead, and a sector too few", small, 2, api.ErrArg)
	empty := device.New(24)
	empty.Crash(nil)
	wantNotLoaded(t, "dead, and zeros", empty, 2, api.ErrDead)
}

func TestP4_3_ReadsOnceAndChangesNothing(t *testing.T) {
	d := device.New(64)
	store(t, d, example())
	durable, pending := d.Durable(), d.Pending()
	wantLoad(t, "Load", d, example())
	if r, w, s := d.Counts(); r != 8 || w != 8 || s != 0 {
		t.Errorf("%d sectors read, %d written, %d syncs, want 8, 8, 0", r, w, s)
	}
	wantNotLoaded(t, "no page", d, 3, api.ErrText)
	if r, w, s := d.Counts(); r != 16 || w != 8 || s != 0 {
		t.Errorf("%d sectors read, %d written, %d syncs, want 16, 8, 0", r, w, s)
	}
	if !slices.Equal(d.Durable(), durable) || !slices.Equal(d.Pending(), pending) {
		t.Error("Load has changed the device")
	}
}

func TestP4_3_P4_4_NoDevice(t *testing.T) {
	wantNotLoaded(t, "no device", nil, 2, api.ErrArg)
	wantError(t, "Store on no device", sheet.Store(nil, example()), api.ErrArg)
}

// ---- P4.4 ----

func TestP4_4_WritesThePageToItsSectors(t *testing.T) {
	r := rand.New(rand.NewSource(46))
	for _, id := range []int{2, 3, 7, 1000, lastID} {
		s := randomSheet(r)
		s.ID = id
		d := device.New(8*id + 8)
		store(t, d, s)
		p := plainPage(s)
		var want []api.Sector
		for i := range 8 {
			want = append(want, api.Sector{Index: 8*id + i, Data: string(p[512*i : 512*i+512])})
		}
		if !slices.Equal(d.Pending(), want) {
			t.Errorf("page %d: other writes are pending", id)
		}
		if len(d.Durable()) != 0 {
			t.Errorf("page %d: it is durable without a sync", id)
		}
		if rd, w, sy := d.Counts(); rd != 0 || w != 8 || sy != 0 {
			t.Errorf("page %d: %d sectors read, %d written, %d syncs, want 0, 8, 0", id, rd, w, sy)
		}
		wantLoad(t, "Load of what is pending", d, s)
	}
}

func TestP4_4_WritesOnce(t *testing.T) {
	d := device.New(24)
	d.Arm(1, nil)
	store(t, d, example())
	wantError(t, "the operation behind it", d.Sync(), api.ErrDead)

	d = device.New(24)
	d.Arm(0, nil)
	wantError(t, "Store, at which the power fails", sheet.Store(d, example()), api.ErrDead)
	d.Revive()
	wantNotLoaded(t, "it is lost", d, 2, api.ErrText)

	d = device.New(24)
	var all []api.Fate
	for i := range 8 {
		all = append(all, api.Fate{Index: i, Kind: api.FateKeep})
	}
	d.Arm(0, all)
	wantError(t, "Store, at which the power fails", sheet.Store(d, example()), api.ErrDead)
	d.Revive()
	wantLoad(t, "it was one write, and is there", d, example())
}

// wrongSheets are sheets that may not be.
func wrongSheets() []api.Sheet {
	l := []api.Sheet{{}}
	for _, f := range []func(*api.Sheet){
		func(s *api.Sheet) { s.Kind = 0x43 },
		func(s *api.Sheet) { s.ID = 1 },
		func(s *api.Sheet) { s.ID = 0 },
		func(s *api.Sheet) { s.ID = -1 },
		func(s *api.Sheet) { s.ID = lastID + 1 },
		func(s *api.Sheet) { s.ID = 1 << 61 },
		func(s *api.Sheet) { s.ID = math.MaxInt },
		func(s *api.Sheet) { s.Count = -1 },
		func(s *api.Sheet) { s.Count = 65536 },
		func(s *api.Sheet) { s.Body = zeros[1:] },
		func(s *api.Sheet) { s.Body = zeros + "x" },
	} {
		s := example()
		f(&s)
		l = append(l, s)
	}
	return l
}

func TestP4_4_P4_6_RefusalsWriteNothing(t *testing.T) {
	d := device.New(32)
	store(t, d, example())
	d.Arm(0, nil)
	was := state(d)
	for _, s := range wrongSheets() {
		wantError(t, "Store of "+tell(s), sheet.Store(d, s), api.ErrArg)
	}
	far := example()
	for _, id := range []int{4, 5, lastID} {
		far.ID = id
		wantError(t, fmt.Sprint("Store of page ", id, " of 4"), sheet.Store(d, far), api.ErrArg)
	}
	if state(d) != was {
		t.Error("a Store that was refused has changed the device")
	}
	wantError(t, "the arm still waits", d.Sync(), api.ErrDead)
}

func TestP4_4_TooFewSectors(t *testing.T) {
	s := example()
	for _, id := range []int{2, 3, 7, lastID} {
		s.ID = id
		for _, size := range []int{8*id + 7, 8*id + 1, 8 * id, 8, 1, 0} {
			d := device.New(size)
			wantError(t, fmt.Sprint("Store of page ", id, " on ", size, " sectors"), sheet.Store(d, s), api.ErrArg)
			if _, w, _ := d.Counts(); w != 0 || len(d.Pending()) != 0 {
				t.Errorf("page %d on %d sectors: something was written", id, size)
			}
		}
		wantError(t, fmt.Sprint("just enough, page ", id), sheet.Store(device.New(8*id+8), s), nil)
	}
}

func TestP4_4_DeadDevices(t *testing.T) {
	d := device.New(24)
	d.Crash(nil)
	was := state(d)
	wantError(t, "dead", sheet.Store(d, example()), api.ErrDead)
	for _, s := range wrongSheets() {
		wantError(t, "dead, "+tell(s), sheet.Store(d, s), api.ErrArg)
	}
	far := example()
	far.ID = 3
	wantError(t, "dead, and a page that is not there", sheet.Store(d, far), api.ErrArg)
	if state(d) != was {
		t.Error("Store has changed a dead device")
	}
	d.Revive()
	wantNotLoaded(t, "what a dead device was asked to store", d, 2, api.ErrText)
}

func TestP4_4_TheLaterOneStays(t *testing.T) {
	d := device.New(32)
	first, second, other := example(), example(), example()
	second.Txid, second.Body = 6, "second"+zeros[6:]
	other.ID = 3
	for _, s := range []api.Sheet{first, other, second} {
		store(t, d, s)
	}
	wantLoad(t, "page 2", d, second)
	wantLoad(t, "page 3", d, other)
}

func TestP4_3_P4_4_BehindAFailureOfThePower(t *testing.T) {
	r := rand.New(rand.NewSource(47))
	for range 100 {
		d := device.New(64)
		old, fresh := randomSheet(r), randomSheet(r)
		old.ID, fresh.ID = 2+r.Intn(6), 2+r.Intn(6)
		store(t, d, old)
		wantError(t, "Sync", d.Sync(), nil)
		if fresh.ID != old.ID {
			store(t, d, fresh)
		}
		d.Crash(nil)
		d.Revive()
		wantLoad(t, "what was synced", d, old)
		if fresh.ID != old.ID {
			wantNotLoaded(t, "what was not", d, fresh.ID, api.ErrText)
		}
	}
}

// half is the fate of a pending write that keeps less than all of it.
func half(r *rand.Rand, i int) api.Fate {
	kinds := []int{api.FateDrop, api.FateKeep, api.FateTear}
	return api.Fate{Index: i, Kind: kinds[r.Intn(3)], Cut: r.Intn(513), Junk: randomBody(r)[:r.Intn(513)]}
}

func TestP4_3_TornPagesAreNone(t *testing.T) {
	r := rand.New(rand.NewSource(48))
	whole := 0
	for range 500 {
		d := device.New(24)
		old, fresh := randomSheet(r), randomSheet(r)
		old.ID, fresh.ID = 2, 2
		store(t, d, old)
		d.Sync()
		store(t, d, fresh)
		var fates []api.Fate
		for i := range 8 {
			fates = append(fates, half(r, i))
		}
		d.Crash(fates)
		d.Revive()
		lies, err := d.Read(16, 8)
		if err != nil {
			t.Fatal(err)
		}
		if bytes.Equal(lies, plainPage(old)) || bytes.Equal(lies, plainPage(fresh)) {
			whole++
			continue
		}
		wantNotLoaded(t, "a torn page", d, 2, api.ErrText)
	}
	if whole > 100 {
		t.Errorf("%d of 500 were whole: the test looks at too few", whole)
	}
}

// ---- P4.5 ----

func TestP4_5_AnotherID(t *testing.T) {
	r := rand.New(rand.NewSource(49))
	for range 200 {
		s := randomSheet(r)
		p := plainPage(s)
		for _, id := range append(noPages(), s.ID-1, s.ID+1, -s.ID, s.ID^256, s.ID+1<<32, s.ID-1<<32, 2, 3, lastID, r.Int()) {
			if id != s.ID {
				wantNotRead(t, fmt.Sprint("page ", s.ID, " as ", id), p, id)
			}
		}
	}
}

// turn turns bits of a page from a bit on, as those of the pattern that are 1; bit 0 of a byte is its lowest.
func turn(p []byte, first int, pattern uint32) []byte {
	q := bytes.Clone(p)
	for i := range 32 {
		if pattern>>i&1 == 1 {
			q[(first+i)/8] ^= 1 << ((first + i) % 8)
		}
	}
	return q
}

// wantTurnedNone asks for the page by its own number, by the one that it says now, and by others.
func wantTurnedNone(t *testing.T, q []byte, first int, pattern uint32, id int) {
	t.Helper()
	for _, as := range []int{id, int(binary.BigEndian.Uint32(q[4:])), 2, id ^ 1, -1} {
		wantNotRead(t, fmt.Sprintf("bits turned from %d on by %#x, as page %d", first, pattern, as), q, as)
	}
}

func TestP4_5_OneBitTurned(t *testing.T) {
	s := randomSheet(rand.New(rand.NewSource(50)))
	p := plainPage(s)
	for bit := 0; bit < 8*pageLen; bit += 1 + bit/8/64 {
		q := bytes.Clone(p)
		q[bit/8] ^= 1 << (bit % 8)
		wantTurnedNone(t, q, bit, 1, s.ID)
	}
}

func TestP4_5_BitsTurnedWithin32(t *testing.T) {
	r := rand.New(rand.NewSource(51))
	const ahead, behind, end = 8*16 - 32, 8 * 20, 8*pageLen - 32
	for range 150 {
		s := randomSheet(r)
		p := plainPage(s)
		firsts := []int{0, ahead, behind, end, r.Intn(ahead + 1), behind + r.Intn(end-behind+1), behind + r.Intn(33)}
		for _, first := range firsts {
			for _, pattern := range []uint32{1, 1 << 31, 1<<31 | 1, 1<<32 - 1, r.Uint32() | 1} {
				wantTurnedNone(t, turn(p, first, pattern), first, pattern, s.ID)
			}
		}
	}
}

func TestP4_5_TurnedIDsAndKindsThatMayBe(t *testing.T) {
	s := api.Sheet{Kind: leaf, ID: 1234, Txid: 9, Count: 4, Body: zeros}
	p := plainPage(s)
	for _, id := range []int{2, 3, 1235, lastID} {
		q := bytes.Clone(p)
		binary.BigEndian.PutUint32(q[4:], uint32(id))
		wantNotRead(t, fmt.Sprint("page 1234 that says ", id), q, id)
	}
	q := bytes.Clone(p)
	q[0] = branch
	wantNotRead(t, "a leaf that says that it is a branch", q, 1234)
}

// ---- P4.6 ----

func TestP4_6_WhatIsReadIsNotChangedNorKept(t *testing.T) {
	s := randomSheet(rand.New(rand.NewSource(52)))
	room := append(plainPage(s), "room behind it"...)
	was := bytes.Clone(room)
	got, err := sheet.Read(room[:pageLen], s.ID)
	sheet.Read(room[:pageLen], s.ID+1)
	sheet.Read(room[:pageLen-1], s.ID)
	if !bytes.Equal(room, was) {
		t.Error("Read has changed what it was handed, or the room behind it")
	}
	clear(room)
	wantSheet(t, "behind a change of the bytes", got, err, s)
}

func TestP4_6_WhatIsSealedIsNewMemory(t *testing.T) {
	s := randomSheet(rand.New(rand.NewSource(53)))
	want := plainPage(s)
	first := seal(t, s)
	second := seal(t, s)
	_ = append(first[:cap(first)], "behind"...)
	clear(first[:cap(first)])
	if !bytes.Equal(second, want) || !bytes.Equal(seal(t, s), want) {
		t.Error("to write into a page has changed another one")
	}
	if !bytes.Equal(plainPage(s), want) {
		t.Error("to write into a page has changed the sheet")
	}
}

// loose is a text whose bytes change with p, which no text should: so it shows whether a text that was handed in was kept.
func loose(p []byte) string { return unsafe.String(&p[0], len(p)) }

func TestP4_6_BodiesAreNotKept(t *testing.T) {
	s := randomSheet(rand.New(rand.NewSource(54)))
	s.ID = 2
	want := plainPage(s)
	body := []byte(s.Body)
	given := s
	given.Body = loose(body)
	p := seal(t, given)
	d := device.New(24)
	store(t, d, given)
	if string(body) != s.Body {
		t.Error("the body was changed")
	}
	clear(body)
	if !bytes.Equal(p, want) {
		t.Error("a page changes with the body that it was made of")
	}
	wantLoad(t, "what was stored", d, s)
}

func TestP4_6_WhatIsLoadedIsNewMemory(t *testing.T) {
	s := randomSheet(rand.New(rand.NewSource(55)))
	s.ID = 2
	d := device.New(24)
	store(t, d, s)
	got, err := sheet.Load(d, 2)
	other := s
	other.Body = zeros
	store(t, d, other)
	d.Sync()
	wantSheet(t, "what was loaded ahead of another Store", got, err, s)
	again, _ := sheet.Load(d, 2)
	third, _ := sheet.Load(d, 2)
	if unsafe.StringData(again.Body) == unsafe.StringData(third.Body) {
		t.Error("two answers share memory")
	}
}

func TestP4_6_NothingBesideAnError(t *testing.T) {
	for _, s := range wrongSheets() {
		wantNoPage(t, "a sheet that may not be", s)
	}
	p := plainPage(example())
	p[100] ^= 1
	wantNotRead(t, "a turned bit", p, 2)
	wantNotLoaded(t, "a turned bit on a device", onDevice(t, 24, 16, p), 2, api.ErrText)
}

// ---- the chapter's table ----

func TestExamples(t *testing.T) {
	s := example()
	p := seal(t, s)
	head := "\x4C\x00\x00\x01" + "\x00\x00\x00\x02" + "\x00\x00\x00\x00\x00\x00\x00\x05" + "\x00\x00\x00\x00" + "\x00\x00\x00\x00"
	if !bytes.Equal(p, summed([]byte(head+zeros))) {
		t.Errorf("Seal: % x", p[:24])
	}
	for _, f := range []func(*api.Sheet){
		func(s *api.Sheet) { s.Kind = 1 },
		func(s *api.Sheet) { s.ID = 1 },
		func(s *api.Sheet) { s.ID = 1048576 },
		func(s *api.Sheet) { s.Count = 65536 },
		func(s *api.Sheet) { s.Count = -1 },
		func(s *api.Sheet) { s.Body = s.Body[:4071] },
	} {
		x := s
		f(&x)
		wantNoPage(t, "Seal", x)
	}
	got, err := sheet.Read(p, 2)
	wantSheet(t, "Read(that page, 2)", got, err, s)
	wantNotRead(t, "Read(that page, 3)", p, 3)
	wantNotRead(t, "Read(that page, -1)", p, -1)
	wantNotRead(t, "Read(4095 bytes of it, 2)", p[:4095], 2)
	wantNotRead(t, "Read(no bytes, 2)", nil, 2)
	for place := range p {
		q := bytes.Clone(p)
		q[place] += byte(1 + place%255)
		wantNotRead(t, fmt.Sprint("byte ", place, " changed"), q, 2)
	}
	q := bytes.Clone(p)
	q[0] = 0x43
	wantNotRead(t, "Kind 0x43 and the sum that fits", summed(q), 2)

	d := device.New(24)
	wantNotLoaded(t, "Load of a page of zeros", d, 2, api.ErrText)
	store(t, d, s)
	wantLoad(t, "Load behind Store", d, s)
	wantNotLoaded(t, "Load of 23 sectors", device.New(23), 2, api.ErrArg)
	wantNotLoaded(t, "Load of page 1", d, 1, api.ErrArg)
	wantNotLoaded(t, "Load of page -1", d, -1, api.ErrArg)
	d.Crash(nil)
	wantNotLoaded(t, "Load of a dead device", d, 2, api.ErrDead)
	wantError(t, "Store on a dead device", sheet.Store(d, s), api.ErrDead)
}
