package backup_test

import (
	"fmt"
	"math/rand"
	"slices"
	"strings"
	"testing"

	"copse/api"
	"copse/backup"
	"copse/branch"
	"copse/device"
	"copse/leaf"
	"copse/sheet"
)

// wantRestored wants a Restore to do to a device what is done by hand to one like it; it answers the error.
func wantRestored(t *testing.T, what string, d *device.Device, a api.Archive) error {
	t.Helper()
	before, other := imageOf(d), clone(t, d)
	if d.Dead() {
		other.Crash(nil)
	}
	wantErr := restoreByHand(t, other, a)
	err := backup.Restore(d, a)
	if err != wantErr {
		t.Errorf("%s: Restore of %s: %v, want %v", what, show(a), err, wantErr)
	}
	after := imageOf(d)
	if err != nil && !after.same(before) {
		t.Errorf("%s: Restore, %v: something was written or synced", what, err)
	}
	after.written, after.syncs = after.written-before.written, after.syncs-before.syncs
	if len(before.pending) == 0 && !after.same(imageOf(other)) {
		t.Errorf("%s: Restore, %v: the device is not as by hand", what, err)
	}
	if err == nil && !outcomeOf(t, d).same(outcomeOf(t, trialOf(t, d.Size(), a))) {
		t.Errorf("%s: what was restored is not the archive's store", what)
	}
	return err
}

// wantRefused wants one error of a Restore to a device on which something lies, alive and dead, with an arm that waits for an operation, and that nothing is done then.
func wantRefused(t *testing.T, what string, sectors int, a api.Archive, want error) {
	t.Helper()
	for _, dead := range []bool{false, true} {
		d := device.New(sectors)
		for i := range min(sectors, 20) {
			must(t, d.Write(i, []byte(strings.Repeat(letter(i), 512))))
		}
		must(t, d.Sync())
		if dead {
			d.Crash(nil)
		}
		d.Arm(0, nil)
		if err := wantRestored(t, what, d, a); err != want {
			t.Errorf("%s, dead %v: %v, want %v", what, dead, err, want)
		}
		d.Revive()
		if d.Sync() != api.ErrDead {
			t.Errorf("%s, dead %v: the arm has gone off", what, dead)
		}
	}
}

// wooden is a whole archive of a branch over three leaves, with other ones in the place of some of its parcels.
func wooden(t *testing.T, others ...api.Parcel) api.Archive {
	l := []api.Parcel{
		leafParcel(t, 3, 9, big("a", "b", "c")), leafParcel(t, 4, 2, big("m", "n", "o")),
		branchParcel(t, 5, 4, []int{3, 4, 7}, "m", "t"), leafParcel(t, 7, 1, big("t", "u", "v")),
	}
	for _, x := range others {
		i := slices.IndexFunc(l, func(y api.Parcel) bool { return y.ID >= x.ID })
		switch {
		case i < 0:
			l = append(l, x)
		case l[i].ID == x.ID:
			l[i] = x
		default:
			l = slices.Insert(l, i, x)
		}
	}
	return wholeOf(10, 5, 12, l...)
}

func rootAt(a api.Archive, root int) api.Archive {
	a.Meta.Root = root
	return summed(a)
}

// corrupt are sound, whole archives of ten pages that are no store.
func corrupt(t *testing.T) map[string]api.Archive {
	junk := api.Sheet{Kind: api.KindLeaf, ID: 4, Txid: 2, Count: 3, Body: strings.Repeat("x", api.BodyBytes)}
	noLeaf := api.Sheet{Kind: api.KindLeaf, ID: 5, Txid: 4, Body: strings.Repeat("\x00", api.BodyBytes)}
	without := func(i int) api.Archive {
		l := wooden(t).Parcels
		return wholeOf(10, 5, 12, slices.Delete(l, i, i+1)...)
	}
	return map[string]api.Archive{
		"the tree is empty, and pages":      rootAt(wooden(t), 0),
		"the root is a leaf of the tree's":  rootAt(wooden(t), 3),
		"the root is a page that is not":    rootAt(wooden(t), 6),
		"the root is the last page":         rootAt(wooden(t), 9),
		"a root and no pages":               wholeOf(10, 2, 3),
		"a leaf more":                       wooden(t, leafParcel(t, 8, 1, big("x", "y", "z"))),
		"the first page more":               wooden(t, leafParcel(t, 2, 12, big("x", "y", "z"))),
		"a leaf less":                       without(0),
		"the last leaf less":                without(3),
		"the branch less":                   without(2),
		"a branch with no leaves":           wholeOf(10, 3, 2, branchParcel(t, 3, 2, []int{4, 5}, "m")),
		"a leaf with too little in it":      wooden(t, leafParcel(t, 4, 2, pairs("m", "1"))),
		"keys out of their place":           wooden(t, leafParcel(t, 4, 2, big("m", "n", "t"))),
		"keys of another leaf":              wooden(t, leafParcel(t, 7, 1, big("s", "u", "v"))),
		"a page that is no node":            wooden(t, parcel(t, junk)),
		"a leaf of no pairs":                wooden(t, parcel(t, noLeaf)),
		"a way around":                      wooden(t, branchParcel(t, 7, 1, []int{5, 4}, "u")),
		"a child twice":                     wooden(t, branchParcel(t, 4, 2, []int{3, 7}, "n")),
		"a child that is not among the ten": wooden(t, branchParcel(t, 5, 4, []int{3, 4, 10}, "m", "t")),
		"leaves at unlike depths":           wooden(t, branchParcel(t, 4, 2, []int{6, 8}, "n"), leafParcel(t, 6, 2, big("m", "m1", "m2")), leafParcel(t, 8, 2, big("n", "n1", "o"))),
	}
}

func TestP23_4_Refusals(t *testing.T) {
	whole, later := wooden(t), someLater(t)
	unsound := func(a api.Archive) api.Archive {
		a.Sum++
		return a
	}
	must(t, backup.Check(whole))
	for _, n := range []int{0, 8, 32, 80, 88} {
		wantRefused(t, "not sound", n, unsound(whole), api.ErrText)
		wantRefused(t, "not sound and not whole", n, unsound(later), api.ErrText)
		wantRefused(t, "not sound and no store", n, unsound(rootAt(whole, 3)), api.ErrText)
		wantRefused(t, "nothing", n, api.Archive{}, api.ErrText)
	}
	for _, n := range []int{0, 7, 32, 79, 80, 87, 88, 800, api.MaxSectors} {
		wantRefused(t, "not whole", n, later, api.ErrArg)
		bare := summed(api.Archive{Meta: api.Meta{Pages: 10}, Since: 0, Pages: nil})
		bare.Meta.Txid, bare.Since = 1, 1
		wantRefused(t, "not whole, without pages", n, summed(bare), api.ErrArg)
		if n/8 == 10 {
			continue
		}
		wantRefused(t, "another number of pages", n, whole, api.ErrArg)
		wantRefused(t, "another number of pages, empty", n, wholeOf(10, 0, 0), api.ErrArg)
		for what, a := range corrupt(t) {
			wantRefused(t, "another number of pages, "+what, n, a, api.ErrArg)
		}
	}
	for what, a := range corrupt(t) {
		must(t, backup.Check(a))
		wantRefused(t, what, 80, a, api.ErrCorrupt)
		wantRefused(t, what, 87, a, api.ErrCorrupt)
	}
}

// Of an archive without a fault a dead device tells ErrDead, and that is all.
func TestP23_4_Dead(t *testing.T) {
	for _, a := range []api.Archive{wooden(t), wholeOf(10, 0, 0), wholeOf(10, 0, 7)} {
		wantRefusedDead(t, a)
	}
}

func wantRefusedDead(t *testing.T, a api.Archive) {
	t.Helper()
	for _, was := range targets(t, 10) {
		d := clone(t, was)
		d.Crash(nil)
		if err := wantRestored(t, "dead", d, a); err != api.ErrDead {
			t.Errorf("dead: %v", err)
		}
		d.Revive()
		if err := wantRestored(t, "revived", d, a); err != nil {
			t.Errorf("revived: %v", err)
		}
	}
}

// targets are devices of so many pages to which something may be restored: on which the one slot counts, the other, or none.
func targets(t *testing.T, pages int) map[string]*device.Device {
	t.Helper()
	sectors, junk := 8*pages, []byte(strings.Repeat("junk", 128))
	with := func(d *device.Device, at int, p []byte) *device.Device {
		d = clone(t, d)
		must(t, d.Write(at, p))
		must(t, d.Sync())
		return d
	}
	first, second := storeOf(t, sectors, 1, pairs("old", "1")), storeOf(t, sectors, 2, pairs("older", "1", "old", "2"))
	lost := api.Meta{Pages: pages, Root: pages - 1, Txid: 2}
	return map[string]*device.Device{
		"zeros":                            device.New(sectors),
		"sectors left over":                device.New(sectors + 5),
		"an empty store":                   storeOf(t, sectors, 0, nil),
		"slot 1 counts, slot 0 may":        first,
		"slot 1 counts, slot 0 is wiped":   with(first, 0, make([]byte, 512)),
		"slot 1 counts, slot 0 is junk":    with(first, 0, junk),
		"slot 0 counts, slot 1 may":        second,
		"slot 0 counts, slot 1 is wiped":   with(second, 8, make([]byte, 512)),
		"slot 0 counts, slot 1 is junk":    with(second, 8, junk),
		"slot 0 counts, and has no tree":   with(first, 0, plainMeta(lost)),
		"slot 1 counts, and has no tree":   with(first, 16, junk),
		"slot 1 is of another size":        with(second, 0, plainMeta(api.Meta{Pages: pages + 1, Txid: 8})),
		"none counts: junk":                with(with(second, 0, junk), 8, junk),
		"none counts: each in the other's": with(with(second, 0, plainMeta(api.Meta{Pages: pages, Txid: 1})), 8, plainMeta(api.Meta{Pages: pages, Txid: 2})),
	}
}

// archives are whole archives of so many pages: without any, of one, of several, at transactions that are even and odd.
func archives(t *testing.T, pages int) map[string]api.Archive {
	t.Helper()
	l := wooden(t).Parcels
	return map[string]api.Archive{
		"empty":                   wholeOf(pages, 0, 0),
		"empty, odd":              wholeOf(pages, 0, 5),
		"of a leaf":               take(t, storeOf(t, 8*pages, 2, pairs("a", "1", "b", "2")), 0),
		"of a leaf, odd":          take(t, storeOf(t, 8*pages, 1, pairs("a", "1")), 0),
		"of four pages":           wholeOf(pages, 5, 12, l...),
		"of four pages, odd":      wholeOf(pages, 5, 13, l...),
		"at the last one but one": wholeOf(pages, pages-1, 1<<64-2, anyParcel(t, pages-1, 1<<64-2)),
	}
}

// fatesOf is some ways in which so many pending writes may end: all lost, all there, all torn, the last one torn at any number of a meta, and some by chance.
func fatesOf(r *rand.Rand, pending int) [][]api.Fate {
	var keep, tear []api.Fate
	for i := range pending {
		keep = append(keep, api.Fate{Index: i, Kind: api.FateKeep})
		tear = append(tear, api.Fate{Index: i, Kind: api.FateTear, Cut: r.Intn(513), Junk: "junk"})
	}
	all := [][]api.Fate{nil, keep, tear}
	for _, cut := range []int{0, 8, 12, 16, 24, 28, 511, 512} {
		all = append(all, []api.Fate{{Index: max(0, pending-1), Kind: api.FateTear, Cut: cut}})
	}
	for range 3 {
		var l []api.Fate
		for i := range pending {
			l = append(l, api.Fate{Index: i, Kind: 1 + r.Intn(3), Cut: r.Intn(513), Junk: letter(r.Intn(26))})
		}
		r.Shuffle(len(l), func(i, j int) { l[i], l[j] = l[j], l[i] })
		all = append(all, l)
	}
	return all
}

// The steps in their order: each operation is refused in its turn, with every fate of what is pending then, and the device is as it is by hand.
func TestP23_4_Steps(t *testing.T) {
	t.Parallel()
	r := rand.New(rand.NewSource(234))
	for to, was := range targets(t, 10) {
		for what, a := range archives(t, 10) {
			n := 7 + len(a.Parcels)
			for k := range n + 1 {
				for i, fates := range fatesOf(r, 8*len(a.Parcels)+1) {
					name := fmt.Sprintf("%s, archive %s, operation %d, fates %d", to, what, k, i)
					got, want := clone(t, was), clone(t, was)
					got.Arm(k, fates)
					want.Arm(k, fates)
					err, wantErr := backup.Restore(got, a), restoreByHand(t, want, a)
					if err != wantErr || (err == nil) != (k == n) || k < n && (err != api.ErrDead || !got.Dead()) {
						t.Fatalf("%s: %v, want %v", name, err, wantErr)
					}
					if !imageOf(got).same(imageOf(want)) {
						t.Fatalf("%s: the device is not as by hand", name)
					}
				}
			}
		}
	}
}

// What is pending on the device is no hindrance: it is durable behind the first Sync.
func TestP23_4_OverPendingWrites(t *testing.T) {
	d := device.New(80)
	must(t, d.Write(8, plainMeta(api.Meta{Pages: 10, Txid: 3})))
	must(t, d.Write(40, []byte(strings.Repeat("x", 4096))))
	d.Arm(0, []api.Fate{{Index: 0, Kind: api.FateKeep}, {Index: 9, Kind: api.FateKeep}}) // the slot 0 is wiped first, for slot 1 counts
	if err := backup.Restore(d, wooden(t)); err != api.ErrDead || !slices.Equal(d.Durable(), []api.Sector{{Index: 8, Data: string(plainMeta(api.Meta{Pages: 10, Txid: 3}))}}) {
		t.Errorf("%v, %d sectors", err, len(d.Durable()))
	}
	d = device.New(80)
	must(t, d.Write(8, plainMeta(api.Meta{Pages: 10, Txid: 3})))
	must(t, d.Write(40, []byte(strings.Repeat("x", 4096))))
	if err := wantRestored(t, "over pending writes", d, wooden(t)); err != nil || len(d.Pending()) != 0 {
		t.Errorf("%v, %d are pending", err, len(d.Pending()))
	}
}

// What lies in other pages stays, and so do the sectors behind the slots and behind the last page.
func TestP23_4_WhatLiesBeside(t *testing.T) {
	d := device.New(87)
	for i := range d.Size() {
		must(t, d.Write(i, []byte(strings.Repeat(letter(i%26), 512))))
	}
	must(t, d.Sync())
	a := wooden(t)
	if err := wantRestored(t, "junk beside", d, a); err != nil {
		t.Fatal(err)
	}
	for i := range d.Size() {
		p, err := d.Read(i, 1)
		must(t, err)
		kept := string(p) == strings.Repeat(letter(i%26), 512)
		if laid := i == 0 || i == 8 || slices.Contains(a.Pages, i/8); kept == laid {
			t.Errorf("sector %d: kept %v", i, kept)
		}
	}
}

// disturb makes another sound archive of a whole one, which may be no store any more.
func disturb(t *testing.T, r *rand.Rand, a api.Archive) api.Archive {
	t.Helper()
	return changed(a, func(a *api.Archive) {
		i := r.Intn(len(a.Parcels))
		switch r.Intn(6) {
		case 0:
			a.Meta.Root = a.Pages[i]
		case 1:
			a.Pages, a.Parcels = slices.Delete(a.Pages, i, i+1), slices.Delete(a.Parcels, i, i+1)
		case 2:
			a.Meta.Txid += uint64(r.Intn(3))
		case 3:
			a.Parcels[i] = parcel(t, changedSheet(t, r, a.Parcels[i]))
		case 4:
			x := anyParcel(t, 2+r.Intn(a.Meta.Pages-2), 1)
			if _, found := slices.BinarySearch(a.Pages, x.ID); !found {
				*a = wholeOf(a.Meta.Pages, a.Meta.Root, a.Meta.Txid, insorted(a.Parcels, x)...)
			}
		}
	})
}

func insorted(l []api.Parcel, x api.Parcel) []api.Parcel {
	i := slices.IndexFunc(l, func(y api.Parcel) bool { return y.ID > x.ID })
	if i < 0 {
		i = len(l)
	}
	return slices.Insert(slices.Clone(l), i, x)
}

// changedSheet is a parcel's page with something in its node changed.
func changedSheet(t *testing.T, r *rand.Rand, x api.Parcel) api.Sheet {
	t.Helper()
	s, err := sheet.Read([]byte(x.Data), x.ID)
	must(t, err)
	if l, err := leaf.Decode(s.Count, s.Body); err == nil && s.Kind == api.KindLeaf {
		l[r.Intn(len(l))].Key += "x"
		if body, err := leaf.Encode(l); err == nil {
			s.Body = body
		}
		return s
	}
	b, err := branch.Decode(s.Count, s.Body)
	must(t, err)
	if i := r.Intn(len(b.Links)); r.Intn(2) == 0 {
		b.Links[i].Child = 2 + r.Intn(40)
	} else {
		b.Links[i].Key = b.Links[i].Key[:len(b.Links[i].Key)-1]
	}
	if body, err := branch.Encode(b); err == nil {
		s.Body = body
	}
	return s
}

// Archives of real stores with something changed in them: each is restored just if what is in it alone is a store with just its pages.
func TestP23_4_AnyArchives(t *testing.T) {
	t.Parallel()
	r, seen := rand.New(rand.NewSource(2341)), map[error]int{}
	h := newHistory(t, 234, 8*60, 500)
	for range 12 {
		h.transact(25, 120)
		a := take(t, h.d, 0)
		for range 25 {
			b := a
			for range r.Intn(4) {
				if len(b.Parcels) > 0 {
					b = disturb(t, r, b)
				}
			}
			must(t, backup.Check(b))
			d := device.New(8*60 + r.Intn(8))
			seen[wantRestored(t, "a disturbed archive", d, b)]++
		}
	}
	if seen[nil] < 80 || seen[api.ErrCorrupt] < 80 {
		t.Errorf("%v", seen)
	}
}
