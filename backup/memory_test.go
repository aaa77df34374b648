package backup_test

import (
	"fmt"
	"math/rand"
	"slices"
	"strings"
	"testing"
	"unsafe"

	"copse/api"
	"copse/backup"
	"copse/device"
)

// memory is texts that can be written over.
type memory struct{ all [][]byte }

func (m *memory) text(s string) string {
	if s == "" {
		return ""
	}
	p := []byte(s)
	m.all = append(m.all, p)
	return unsafe.String(&p[0], len(p))
}

func (m *memory) scrawl() {
	for _, p := range m.all {
		for i := range p {
			p[i] = '#'
		}
	}
}

// archive is an archive in memory of its own, with something behind the ends of its lists.
func (m *memory) archive(a api.Archive) api.Archive {
	pages := append(slices.Clone(a.Pages), 3, 7, 9)
	var parcels []api.Parcel
	for _, x := range append(slices.Clone(a.Parcels), api.Parcel{ID: 3, Txid: 1, Data: "behind"}, api.Parcel{}) {
		parcels = append(parcels, api.Parcel{ID: x.ID, Txid: x.Txid, Data: m.text(x.Data)})
	}
	a.Pages, a.Parcels = pages[:len(a.Pages)], parcels[:len(a.Parcels)]
	return a
}

// kept is an archive with all that lies in the room of its lists, in memory of its own.
func kept(a api.Archive) api.Archive {
	a.Pages = slices.Clone(a.Pages[:cap(a.Pages)])
	var parcels []api.Parcel
	for _, x := range a.Parcels[:cap(a.Parcels)] {
		parcels = append(parcels, api.Parcel{ID: x.ID, Txid: x.Txid, Data: strings.Clone(x.Data)})
	}
	a.Parcels = parcels
	return a
}

// fill writes over the lists of an archive and the room behind them.
func fill(a api.Archive) {
	for i := range a.Pages[:cap(a.Pages)] {
		a.Pages[:cap(a.Pages)][i] = -7
	}
	for i := range a.Parcels[:cap(a.Parcels)] {
		a.Parcels[:cap(a.Parcels)][i] = api.Parcel{ID: -7, Data: "scrawl"}
	}
}

// someArchives are of all kinds, sound and not.
func someArchives(t *testing.T) []api.Archive {
	whole, later := wooden(t), someLater(t)
	bad := whole
	bad.Sum++
	return []api.Archive{
		{}, wholeOf(10, 0, 0), wholeOf(10, 0, 9), whole, someWhole(t), later, bad, rootAt(whole, 3), wholeOf(11, 2, 5, anyParcel(t, 2, 5)),
		summed(api.Archive{Meta: whole.Meta, Since: 12, Pages: whole.Pages}),
		summed(api.Archive{Meta: api.Meta{Pages: 10, Root: 5, Txid: 20}, Since: 12, Pages: []int{3, 4, 5, 8}, Parcels: []api.Parcel{anyParcel(t, 8, 14)}}),
	}
}

func TestP23_9_Merge(t *testing.T) {
	merged := 0
	for _, x := range someArchives(t) {
		for _, y := range someArchives(t) {
			want, wantErr := plainMerge(x, y)
			var m memory
			a, b := m.archive(x), m.archive(y)
			wasA, wasB := kept(a), kept(b)
			got, err := backup.Merge(a, b)
			again, errAgain := backup.Merge(a, b)
			if !same(kept(a), wasA) || !same(kept(b), wasB) {
				t.Errorf("Merge of %s and %s has changed what was handed in", show(x), show(y))
			}
			fill(a)
			fill(b)
			m.scrawl()
			if !same(got, want) || !same(again, want) || err != wantErr || errAgain != wantErr {
				t.Errorf("Merge of %s and %s, written over: %s, %v; want %s, %v", show(x), show(y), show(got), err, show(want), wantErr)
			}
			_, _ = append(got.Pages, 1), append(got.Parcels, api.Parcel{})
			fill(got)
			if !same(again, want) {
				t.Errorf("Merge of %s and %s: two answers share memory", show(x), show(y))
			}
			if later, err := backup.Merge(x, y); !same(later, want) || err != wantErr {
				t.Errorf("Merge of %s and %s, asked later: %s, %v", show(x), show(y), show(later), err)
			}
			if err == nil {
				merged++
			}
		}
	}
	if merged < 10 {
		t.Errorf("only %d were merged", merged)
	}
}

func TestP23_9_CheckAndRestore(t *testing.T) {
	for _, x := range someArchives(t) {
		var m memory
		a := m.archive(x)
		was := kept(a)
		if err := backup.Check(a); err != plainCheck(x) {
			t.Errorf("Check of %s: %v", show(x), err)
		}
		d, other := example(t), example(t)
		wantErr := restoreByHand(t, other, x)
		err := backup.Restore(d, a)
		if !same(kept(a), was) {
			t.Errorf("%s: what was handed in has changed", show(x))
		}
		fill(a)
		m.scrawl()
		if err != wantErr || !imageOf(d).same(imageOf(other)) {
			t.Errorf("Restore of %s, written over: %v, want %v", show(x), err, wantErr)
		}
	}
}

// A failing Restore has kept nothing of the archive, pending writes neither.
func TestP23_9_FailedRestore(t *testing.T) {
	x := wooden(t)
	for k := range 12 {
		var m memory
		a := m.archive(x)
		fates := make([]api.Fate, 40)
		for i := range fates {
			fates[i] = api.Fate{Index: i, Kind: api.FateKeep}
		}
		d, other := example(t), example(t)
		d.Arm(k, fates)
		other.Arm(k, fates)
		err, wantErr := backup.Restore(d, a), restoreByHand(t, other, x)
		fill(a)
		m.scrawl()
		if err != wantErr || !imageOf(d).same(imageOf(other)) {
			t.Errorf("operation %d: %v, want %v", k, err, wantErr)
		}
	}
}

func TestP23_9_Take(t *testing.T) {
	for what, d := range stores(t) {
		for _, since := range []uint64{0, 1, 1000} {
			want, wantErr := plainTake(d, since)
			got, err := backup.Take(d, since)
			twin, errTwin := backup.Take(d, since)
			_, _ = append(got.Pages, 1), append(got.Parcels, api.Parcel{})
			fill(got)
			again, errAgain := backup.Take(d, since)
			if err != wantErr || errTwin != wantErr || errAgain != wantErr || !same(twin, want) || !same(again, want) {
				t.Errorf("%s since %d: %s and %s, %v; want %s, %v", what, since, show(twin), show(again), err, show(want), wantErr)
			}
		}
		a := take(t, d, 0)
		was := kept(a)
		must(t, backup.Compact(example(t), d)) // the device is written over
		if !same(kept(a), was) {
			t.Errorf("%s: an archive has heard of what was written behind it", what)
		}
	}
}

// The same calls have the same answers, and leave the same bytes (P0.2).
func TestP23_9_AskedTwice(t *testing.T) {
	var images []image
	var texts []string
	for range 2 {
		h := newHistory(t, 239, 8*100, 500)
		h.transact(60, 150)
		whole := take(t, h.d, 0)
		h.transact(5, 150)
		whole = merge(t, whole, take(t, h.d, 1))
		to, compact := targets(t, 100)["slot 0 counts, slot 1 may"], device.New(800)
		must(t, backup.Restore(to, whole))
		must(t, backup.Compact(to, compact))
		images, texts = append(images, imageOf(to), imageOf(compact)), append(texts, show(whole))
	}
	if texts[0] != texts[1] || !images[0].same(images[2]) || !images[1].same(images[3]) {
		t.Errorf("two runs are not the same: %s, %s", texts[0], texts[1])
	}
}

func randomBytes(r *rand.Rand, n int) []byte {
	p := make([]byte, n)
	r.Read(p)
	return p
}

// anyDevice is a device of any size with any bytes on it, or with what is nearly a store.
func anyDevice(t *testing.T, r *rand.Rand) *device.Device {
	d := device.New(r.Intn(120))
	pages := d.Size() / 8
	for i := range d.Size() {
		if r.Intn(3) == 0 {
			must(t, d.Write(i, randomBytes(r, 512)))
		}
	}
	if pages >= 4 && r.Intn(4) > 0 {
		m := api.Meta{Pages: pages, Txid: uint64(r.Intn(5))}
		if r.Intn(4) > 0 {
			m.Root = 2 + r.Intn(pages-2)
			must(t, d.Write(8*m.Root, []byte(anyParcel(t, m.Root, uint64(r.Intn(5))).Data)))
		}
		must(t, d.Write(int(8*(m.Txid%2)), plainMeta(m)))
	}
	if r.Intn(2) == 0 {
		must(t, d.Sync())
	}
	if r.Intn(8) == 0 {
		d.Crash(nil)
	}
	if r.Intn(8) == 0 {
		d.Arm(r.Intn(12), nil)
	}
	return d
}

// Any archives and any devices: every call ends, and answers what the chapter's words say.
func TestP23_9_AnyArchivesAnyDevices(t *testing.T) {
	r, seen := rand.New(rand.NewSource(2391)), map[string]int{}
	for range 500 {
		d, a := anyDevice(t, r), anyArchive(t, r)
		spoil(t, r, &a)
		if r.Intn(4) > 0 {
			a = summed(a)
		}
		since := uint64(r.Intn(6))
		want, wantErr := plainTake(d, since)
		got, err := backup.Take(d, since)
		if err != wantErr || !same(got, want) {
			t.Errorf("Take since %d: %s, %v; want %s, %v", since, show(got), err, show(want), wantErr)
		}
		seen[fmt.Sprint("Take: ", err)]++
		_ = wantMerged(t, "any", a, got)
		_ = wantMerged(t, "any", got, a)
		wantErr = plainRestoreFault(t, d, a)
		if err := backup.Restore(d, a); err != wantErr && (wantErr != nil || err != api.ErrDead) {
			t.Errorf("Restore of %s: %v, want %v", show(a), err, wantErr)
		}
		err = backup.Restore(d, got) // which is a store of that device's, or nothing
		seen[fmt.Sprint("Restore: ", err)]++
		seen[fmt.Sprint("Compact: ", backup.Compact(d, anyDevice(t, r)))]++
		_ = backup.Compact(anyDevice(t, r), d)
	}
	for _, what := range []string{"Take: <nil>", "Take: not a store", "Take: the power has failed", "Restore: <nil>", "Compact: <nil>", "Compact: not a store"} {
		if seen[what] < 15 {
			t.Errorf("%s: %d times; %v", what, seen[what], seen)
		}
	}
}
