package feed_test

import (
	"encoding/binary"
	"fmt"
	"hash/crc32"
	"maps"
	"math/rand"
	"slices"
	"strings"
	"testing"

	"copse/api"
	"copse/device"
	"copse/feed"
	"copse/kv"
	"copse/meta"
	"copse/walk"
)

// own is the replica's own key, byte by byte.
var own = string([]byte{0xFF, 0x66, 0x65, 0x65, 0x64})

func must(t *testing.T, err error) {
	t.Helper()
	if err != nil {
		t.Fatal(err)
	}
}

// show is a text short enough to be read.
func show(v any) string {
	s := fmt.Sprintf("%+q", v)
	if len(s) > 400 {
		return s[:400] + ".."
	}
	return s
}

func changes(l ...api.Change) []api.Change { return l }

// had is a key that is no more.
func had(key, old string) api.Change { return api.Change{Key: key, Had: true, Old: old} }

// has is a key that was not there.
func has(key, now string) api.Change { return api.Change{Key: key, Has: true, New: now} }

// turned is a key that was there and is.
func turned(key, old, now string) api.Change {
	return api.Change{Key: key, Had: true, Old: old, Has: true, New: now}
}

// book is the pairs of a store as a plain map.
type book map[string]string

func bookOf(l []api.Pair) book {
	b := book{}
	for _, p := range l {
		b[p.Key] = p.Value
	}
	return b
}

// without is the book without the replica's own key.
func (b book) without() book {
	other := maps.Clone(b)
	delete(other, own)
	return other
}

// plainChanges is what leads from one book to another.
func plainChanges(a, b book) []api.Change {
	all := maps.Clone(a)
	maps.Copy(all, b)
	var l []api.Change
	for _, k := range slices.Sorted(maps.Keys(all)) {
		old, had := a[k]
		now, has := b[k]
		if had != has || old != now {
			l = append(l, api.Change{Key: k, Had: had, Old: old, Has: has, New: now})
		}
	}
	return l
}

// plainBytes is the bytes over which a batch's sum goes.
func plainBytes(from, to uint64, l []api.Change) []byte {
	text := func(p []byte, s string) []byte {
		return append(binary.BigEndian.AppendUint32(p, uint32(len(s))), s...)
	}
	flag := map[bool]byte{true: 1, false: 0}
	p := binary.BigEndian.AppendUint64(nil, from)
	p = binary.BigEndian.AppendUint64(p, to)
	p = binary.BigEndian.AppendUint32(p, uint32(len(l)))
	for _, c := range l {
		p = text(p, c.Key)
		p = text(append(p, flag[c.Had]), c.Old)
		p = text(append(p, flag[c.Has]), c.New)
	}
	return p
}

func plainSum(from, to uint64, l []api.Change) uint32 {
	return crc32.Checksum(plainBytes(from, to, l), crc32.MakeTable(crc32.Castagnoli))
}

// plainMayBe is what the chapter says of a change that may be, sentence by sentence.
func plainMayBe(c api.Change) bool {
	if len(c.Key) < 1 || len(c.Key) > 255 || len(c.Old) > 700 || len(c.New) > 700 {
		return false
	}
	if !c.Had && !c.Has {
		return false
	}
	if !c.Had && c.Old != "" || !c.Has && c.New != "" {
		return false
	}
	return !(c.Had && c.Has && c.Old == c.New)
}

// plainFault is P20.3's errors, in their order.
func plainFault(from, to uint64, l []api.Change) error {
	if to <= from {
		return api.ErrArg
	}
	for _, c := range l {
		if !plainMayBe(c) {
			return api.ErrArg
		}
	}
	for i := range l {
		for _, later := range l[i+1:] {
			if strings.Compare(l[i].Key, later.Key) >= 0 {
				return api.ErrOrder
			}
		}
	}
	for _, c := range l {
		if c.Key == own {
			return api.ErrKind
		}
	}
	return nil
}

func same(a, b api.Batch) bool {
	return a.From == b.From && a.To == b.To && a.Sum == b.Sum && slices.Equal(a.Changes, b.Changes)
}

// zero tells if a batch has nothing at all.
func zero(b api.Batch) bool { return same(b, api.Batch{}) && b.Changes == nil }

// sealed is a batch that may be.
func sealed(t *testing.T, from, to uint64, l ...api.Change) api.Batch {
	t.Helper()
	b, err := feed.Seal(from, to, l)
	must(t, err)
	return b
}

// summed is a batch with the right sum, whether it may be or not.
func summed(from, to uint64, l ...api.Change) api.Batch {
	return api.Batch{From: from, To: to, Changes: l, Sum: plainSum(from, to, l)}
}

// opened is an empty store on a new device, open.
func opened(t *testing.T, pages int) (*kv.Store, *device.Device) {
	t.Helper()
	d := device.New(pages * api.PageSectors)
	s := kv.New(d)
	must(t, s.Format())
	must(t, s.Open())
	return s, d
}

// commit makes one transaction of texts such as "a=1" and "-a", which takes a away.
func commit(t *testing.T, s *kv.Store, l ...string) {
	t.Helper()
	must(t, s.Begin())
	for _, x := range l {
		if key, is := strings.CutPrefix(x, "-"); is {
			_, err := s.Delete(key)
			must(t, err)
			continue
		}
		key, value, _ := strings.Cut(x, "=")
		must(t, s.Put(key, value))
	}
	must(t, s.Commit())
}

// write makes one transaction that leads from one book to another.
func write(t *testing.T, s *kv.Store, a, b book) {
	t.Helper()
	must(t, s.Begin())
	for _, c := range plainChanges(a, b) {
		if c.Has {
			must(t, s.Put(c.Key, c.New))
			continue
		}
		_, err := s.Delete(c.Key)
		must(t, err)
	}
	must(t, s.Commit())
}

func replica(t *testing.T, s *kv.Store) *feed.Replica {
	t.Helper()
	r, err := feed.New(s)
	must(t, err)
	return r
}

func follow(t *testing.T, d *device.Device) *feed.Source {
	t.Helper()
	s, err := feed.Follow(d)
	must(t, err)
	return s
}

// next is a batch that the source must have.
func next(t *testing.T, s *feed.Source) api.Batch {
	t.Helper()
	b, is, err := s.Batch()
	if err != nil || !is {
		t.Fatalf("Batch = %v, %v, %v", b, is, err)
	}
	return b
}

// held is all pairs that lie on a device.
func held(t *testing.T, d *device.Device) book {
	t.Helper()
	l, err := walk.Content(d)
	must(t, err)
	return bookOf(l)
}

// eight is a number as the own key's value has it.
func eight(n uint64) string { return string(binary.BigEndian.AppendUint64(nil, n)) }

// clone is a device on which the same sectors lie durably.
func clone(t *testing.T, d *device.Device) *device.Device {
	t.Helper()
	c, err := device.Open(d.Size(), d.Durable())
	must(t, err)
	return c
}

// image is all that can be seen of a device but its counts of reads.
type image struct {
	durable, pending []api.Sector
	written, syncs   int
	dead             bool
}

func imageOf(d *device.Device) image {
	_, written, syncs := d.Counts()
	return image{durable: d.Durable(), pending: d.Pending(), written: written, syncs: syncs, dead: d.Dead()}
}

// wantUntouched tells if something was written or synced since.
func wantUntouched(t *testing.T, what string, d *device.Device, was image) {
	t.Helper()
	now := imageOf(d)
	if !slices.Equal(now.durable, was.durable) || !slices.Equal(now.pending, was.pending) || now.written != was.written || now.syncs != was.syncs || now.dead != was.dead {
		t.Fatalf("%s: the device was touched", what)
	}
}

// laidAt is an open store with these pairs that stands at a transaction, laid there by hand.
func laidAt(t *testing.T, pages int, txid uint64, b book) (*kv.Store, *device.Device) {
	t.Helper()
	s, d := opened(t, pages)
	write(t, s, book{}, b)
	m, err := meta.Load(d)
	must(t, err)
	m.Txid = txid
	must(t, meta.Wipe(d, 0))
	must(t, meta.Wipe(d, 1))
	must(t, meta.Store(d, m))
	must(t, d.Sync())
	s = kv.New(d)
	must(t, s.Open())
	if s.Txid() != txid {
		t.Fatalf("transaction %d", s.Txid())
	}
	return s, d
}

// numbered is so many pairs, with values that make a tree of several leaves.
func numbered(n, width int) book {
	b := book{}
	for i := range n {
		b[fmt.Sprintf("k%04d", i)] = strings.Repeat(string(rune('a'+i%26)), width)
	}
	return b
}

// oddKeys are few, begin one another, and stand close to the replica's own.
func oddKeys() []string {
	return []string{"\x00", "a", "a\x00", "a\xff", "b", "feed", "\xfe", "\xff", "\xfffee", "\xfffeec", own + "\x00", "\xfffeee", "\xff\xff", strings.Repeat("k", 255), strings.Repeat("\xff", 255)}
}

func oddValues() []string {
	return []string{"", "1", "2", "\x00", "12345678", strings.Repeat("v", 700)}
}

// stirred is a book with some keys changed.
func stirred(r *rand.Rand, b book, keys []string) book {
	b = maps.Clone(b)
	for range r.Intn(5) {
		k := keys[r.Intn(len(keys))]
		if r.Intn(3) == 0 {
			delete(b, k)
		} else {
			b[k] = oddValues()[r.Intn(len(oddValues()))]
		}
	}
	return b
}

// brought is a replica at transaction 1 of a store that was open when it was made and is brought to that status.
func brought(t *testing.T, status int) (*feed.Replica, *kv.Store, *device.Device) {
	t.Helper()
	s, d := opened(t, 8)
	commit(t, s, "a=1", own+"="+eight(1))
	r := replica(t, s)
	switch status {
	case api.Closed:
		must(t, s.Close())
	case api.Working:
		must(t, s.Begin())
	case api.Broken:
		must(t, s.Begin())
		for i := range 60 {
			must(t, s.Put(fmt.Sprint("k", i), strings.Repeat("v", 700)))
		}
		if err := s.Commit(); err != api.ErrFull {
			t.Fatal(err)
		}
	case api.Dead:
		d.Crash(nil)
		if err := s.Begin(); err != api.ErrDead {
			t.Fatal(err)
		}
		d.Revive()
	}
	if s.Status() != status {
		t.Fatalf("the status is %d, not %d", s.Status(), status)
	}
	return r, s, d
}

// statusErrors is what the statuses are told, by their numbers.
func statusErrors() []error {
	return []error{api.ErrStatus, nil, api.ErrStatus, api.ErrStatus, api.ErrDead}
}
