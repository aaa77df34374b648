package backup_test

import (
	"encoding/binary"
	"fmt"
	"hash/crc32"
	"maps"
	"slices"
	"testing"

	"copse/api"
	"copse/device"
	"copse/walk"
)

func must(t *testing.T, err error) {
	t.Helper()
	if err != nil {
		t.Fatal(err)
	}
}

func crc(p []byte) uint32 { return crc32.Checksum(p, crc32.MakeTable(crc32.Castagnoli)) }

// plainMeta is the bytes of a meta.
func plainMeta(m api.Meta) []byte {
	p := binary.BigEndian.AppendUint32([]byte("COPSE\x00\x01\x00"), uint32(m.Pages))
	p = binary.BigEndian.AppendUint32(p, uint32(m.Root))
	p = binary.BigEndian.AppendUint64(p, m.Txid)
	p = append(p, make([]byte, 512-len(p))...)
	binary.BigEndian.PutUint32(p[24:], crc(p))
	return p
}

// plainTxid is the transaction that the bytes of a page tell, and whether they are one of that number.
func plainTxid(data string, id int) (uint64, bool) {
	if len(data) != 4096 {
		return 0, false
	}
	p := []byte(data)
	sum := binary.BigEndian.Uint32(p[16:])
	copy(p[16:], []byte{0, 0, 0, 0})
	kind := p[0] == 0x42 || p[0] == 0x4C
	zeros := p[1] == 0 && binary.BigEndian.Uint32(p[20:]) == 0
	number := id >= 2 && id <= 1048575 && binary.BigEndian.Uint32(p[4:]) == uint32(id)
	return binary.BigEndian.Uint64(p[8:]), kind && zeros && number && sum == crc(p)
}

// plainSum is the sum of an archive, over all its bytes at once.
func plainSum(a api.Archive) uint32 {
	p := binary.BigEndian.AppendUint32(nil, uint32(a.Meta.Pages))
	p = binary.BigEndian.AppendUint32(p, uint32(a.Meta.Root))
	p = binary.BigEndian.AppendUint64(p, a.Meta.Txid)
	p = binary.BigEndian.AppendUint64(p, a.Since)
	p = binary.BigEndian.AppendUint32(p, uint32(len(a.Pages)))
	for _, id := range a.Pages {
		p = binary.BigEndian.AppendUint32(p, uint32(id))
	}
	p = binary.BigEndian.AppendUint32(p, uint32(len(a.Parcels)))
	for _, x := range a.Parcels {
		p = binary.BigEndian.AppendUint32(p, uint32(x.ID))
		p = binary.BigEndian.AppendUint64(p, x.Txid)
		p = append(p, x.Data...)
	}
	return crc(p)
}

// summed is an archive with the right sum, whether it may be or not.
func summed(a api.Archive) api.Archive {
	a.Sum = plainSum(a)
	return a
}

func plainMetaMayBe(m api.Meta) bool {
	if m.Pages < 4 || m.Pages > 1048576 {
		return false
	}
	return m.Root == 0 || m.Root > 1 && m.Root < m.Pages
}

func plainPagesMayBe(a api.Archive) bool {
	for i, id := range a.Pages {
		if id < 2 || id > a.Meta.Pages-1 {
			return false
		}
		for _, later := range a.Pages[i+1:] {
			if later <= id {
				return false
			}
		}
	}
	return true
}

// plainMayBe is what the chapter says of an archive that may be, sentence by sentence.
func plainMayBe(a api.Archive) bool {
	if !plainMetaMayBe(a.Meta) || a.Since > a.Meta.Txid || !plainPagesMayBe(a) {
		return false
	}
	seen := map[int]bool{}
	for i, x := range a.Parcels {
		if i > 0 && x.ID <= a.Parcels[i-1].ID {
			return false
		}
		txid, ok := plainTxid(x.Data, x.ID)
		if !ok || txid != x.Txid || x.Txid <= a.Since || x.Txid > a.Meta.Txid {
			return false
		}
		if !slices.Contains(a.Pages, x.ID) {
			return false
		}
		seen[x.ID] = true
	}
	for _, id := range a.Pages {
		if a.Since == 0 && !seen[id] {
			return false
		}
	}
	return true
}

func plainCheck(a api.Archive) error {
	if !plainMayBe(a) || a.Sum != plainSum(a) {
		return api.ErrText
	}
	return nil
}

// plainTake is what Take answers, out of what stands on the device.
func plainTake(d *device.Device, since uint64) (api.Archive, error) {
	s, err := walk.Survey(d)
	if err != nil {
		return api.Archive{}, err
	}
	if s.Meta.Txid < since {
		return api.Archive{}, api.ErrArg
	}
	a := api.Archive{Meta: s.Meta, Since: since, Pages: s.Pages}
	for _, id := range s.Pages {
		p, err := d.Read(8*id, 8)
		if err != nil {
			return api.Archive{}, err
		}
		if txid, _ := plainTxid(string(p), id); txid > since {
			a.Parcels = append(a.Parcels, api.Parcel{ID: id, Txid: txid, Data: string(p)})
		}
	}
	return summed(a), nil
}

// plainParcel is the parcel of a page in an archive, and whether there is one.
func plainParcel(a api.Archive, id int) (api.Parcel, bool) {
	for _, x := range a.Parcels {
		if x.ID == id {
			return x, true
		}
	}
	return api.Parcel{}, false
}

// plainMerge is what Merge answers, sentence by sentence.
func plainMerge(a, b api.Archive) (api.Archive, error) {
	if plainCheck(a) != nil || plainCheck(b) != nil {
		return api.Archive{}, api.ErrText
	}
	if a.Since != 0 {
		return api.Archive{}, api.ErrArg
	}
	if a.Meta.Pages != b.Meta.Pages {
		return api.Archive{}, api.ErrKind
	}
	if b.Meta.Txid < a.Meta.Txid {
		return api.Archive{}, api.ErrOrder
	}
	if b.Since > a.Meta.Txid {
		return api.Archive{}, api.ErrShort
	}
	m := api.Archive{Meta: b.Meta, Pages: b.Pages}
	for _, id := range b.Pages {
		x, ok := plainParcel(b, id)
		if !ok {
			x, ok = plainParcel(a, id)
			if !ok || x.Txid > b.Since {
				return api.Archive{}, api.ErrLost
			}
		}
		m.Parcels = append(m.Parcels, x)
	}
	return summed(m), nil
}

// trialOf is a device of that size on which there is what is in a whole archive, and nothing else.
func trialOf(t *testing.T, sectors int, a api.Archive) *device.Device {
	t.Helper()
	l := []api.Sector{{Index: int(8 * (a.Meta.Txid % 2)), Data: string(plainMeta(a.Meta))}}
	for _, x := range a.Parcels {
		for i := range 8 {
			l = append(l, api.Sector{Index: 8*x.ID + i, Data: x.Data[512*i : 512*i+512]})
		}
	}
	d, err := device.Open(sectors, l)
	must(t, err)
	return d
}

// plainRestoreFault is what Restore tells ahead of its steps.
func plainRestoreFault(t *testing.T, d *device.Device, a api.Archive) error {
	t.Helper()
	if err := plainCheck(a); err != nil {
		return err
	}
	if a.Since != 0 || d.Size()/8 != a.Meta.Pages {
		return api.ErrArg
	}
	s, err := walk.Survey(trialOf(t, d.Size(), a))
	if err != nil || !slices.Equal(s.Pages, a.Pages) {
		return api.ErrCorrupt
	}
	return nil
}

// plainSlot is the meta that a slot of a device holds, and whether it holds one.
func plainSlot(d *device.Device, slot int) (api.Meta, bool) {
	p, err := d.Read(8*slot, 1)
	if err != nil {
		return api.Meta{}, false
	}
	m := api.Meta{
		Pages: int(binary.BigEndian.Uint32(p[8:])),
		Root:  int(binary.BigEndian.Uint32(p[12:])),
		Txid:  binary.BigEndian.Uint64(p[16:]),
	}
	whole := string(p) == string(plainMeta(m))
	return m, whole && plainMetaMayBe(m) && m.Pages == d.Size()/8 && int(m.Txid%2) == slot
}

// plainIdle is the slot that does not count: 0, if slot 1 does; else 1.
func plainIdle(d *device.Device) int {
	first, is := plainSlot(d, 0)
	second, counts := plainSlot(d, 1)
	if counts && (!is || second.Txid > first.Txid) {
		return 0
	}
	return 1
}

// restoreByHand is what Restore does, operation by operation.
func restoreByHand(t *testing.T, d *device.Device, a api.Archive) error {
	t.Helper()
	if err := plainRestoreFault(t, d, a); err != nil {
		return err
	}
	if d.Dead() {
		return api.ErrDead
	}
	zeros, idle := make([]byte, 512), plainIdle(d)
	if err := d.Write(8*idle, zeros); err != nil {
		return err
	}
	if err := d.Sync(); err != nil {
		return err
	}
	if err := d.Write(8*(1-idle), zeros); err != nil {
		return err
	}
	if err := d.Sync(); err != nil {
		return err
	}
	for _, x := range a.Parcels {
		if err := d.Write(8*x.ID, []byte(x.Data)); err != nil {
			return err
		}
	}
	if err := d.Sync(); err != nil {
		return err
	}
	if err := d.Write(int(8*(a.Meta.Txid%2)), plainMeta(a.Meta)); err != nil {
		return err
	}
	return d.Sync()
}

// same tells if two archives are one. Lists without elements are the same as none.
func same(a, b api.Archive) bool {
	return a.Meta == b.Meta && a.Since == b.Since && a.Sum == b.Sum && slices.Equal(a.Pages, b.Pages) && slices.Equal(a.Parcels, b.Parcels)
}

// zero tells if an archive has nothing at all.
func zero(a api.Archive) bool { return same(a, api.Archive{}) && a.Pages == nil && a.Parcels == nil }

// show is an archive short enough to be read.
func show(a api.Archive) string {
	var l []string
	for _, x := range a.Parcels {
		l = append(l, fmt.Sprintf("%d@%d", x.ID, x.Txid))
	}
	return fmt.Sprintf("{%v since %d, pages %v, parcels %v, sum %08x}", a.Meta, a.Since, a.Pages, l, a.Sum)
}

// showPairs is pairs short enough to be read.
func showPairs(l []api.Pair) string {
	s := fmt.Sprintf("%d pairs: %q", len(l), l)
	return s[:min(len(s), 300)]
}

// image is what lies on a device, sector by sector, and what it has done.
type image struct {
	durable        map[int]string
	pending        []api.Sector
	written, syncs int
	dead           bool
}

func imageOf(d *device.Device) image {
	m := image{durable: map[int]string{}, pending: d.Pending(), dead: d.Dead()}
	for _, s := range d.Durable() {
		m.durable[s.Index] = s.Data
	}
	_, m.written, m.syncs = d.Counts()
	return m
}

func (m image) same(other image) bool {
	return maps.Equal(m.durable, other.durable) && slices.Equal(m.pending, other.pending) && m.written == other.written && m.syncs == other.syncs && m.dead == other.dead
}

// clone is a device on which the same lies durably; nothing is pending on it, and it has no arms.
func clone(t *testing.T, d *device.Device) *device.Device {
	t.Helper()
	other, err := device.Open(d.Size(), d.Durable())
	must(t, err)
	return other
}

// outcome is what a device holds: a store with its survey and its pairs, or none.
type outcome struct {
	survey string
	pairs  []api.Pair
	err    error
}

func outcomeOf(t *testing.T, d *device.Device) outcome {
	t.Helper()
	s, err := walk.Survey(d)
	l, errContent := walk.Content(d)
	if err != errContent {
		t.Fatalf("Survey: %v, Content: %v", err, errContent)
	}
	return outcome{fmt.Sprint(s), l, err}
}

func (o outcome) same(other outcome) bool {
	return o.survey == other.survey && o.err == other.err && slices.Equal(o.pairs, other.pairs)
}
