package backup_test

import (
	"fmt"
	"math"
	"math/rand"
	"testing"

	"copse/api"
	"copse/backup"
)

// wantMerged wants of Merge what the plain form has, and that what it answers is sound and whole; it answers the error.
func wantMerged(t *testing.T, what string, a, b api.Archive) error {
	t.Helper()
	want, wantErr := plainMerge(a, b)
	got, err := backup.Merge(a, b)
	if err != wantErr || !same(got, want) {
		t.Errorf("%s: Merge of %s and %s: %s, %v; want %s, %v", what, show(a), show(b), show(got), err, show(want), wantErr)
	}
	switch {
	case err != nil && !zero(got):
		t.Errorf("%s: beside %v: %s", what, err, show(got))
	case err == nil && (backup.Check(got) != nil || got.Since != 0 || got.Meta != b.Meta):
		t.Errorf("%s: not sound and whole: %s, %v", what, show(got), backup.Check(got))
	}
	return err
}

// What speaks against a merge, in the chapter's order.
const (
	unsoundA = iota
	unsoundB
	notWhole
	unlike
	older
	gap
	lost
	reasons
)

func reasonErrors() []error {
	return []error{api.ErrText, api.ErrText, api.ErrArg, api.ErrKind, api.ErrOrder, api.ErrShort, api.ErrLost}
}

// twoFor is two archives against whose merge just these reasons speak.
func twoFor(t *testing.T, is [reasons]bool) (api.Archive, api.Archive) {
	a := wholeOf(10, 2, 5, anyParcel(t, 2, 1), anyParcel(t, 3, 5))
	b := api.Archive{Meta: api.Meta{Pages: 10, Root: 4, Txid: 7}, Since: 4, Pages: []int{2, 4}, Parcels: []api.Parcel{anyParcel(t, 4, 7)}}
	if is[notWhole] {
		a.Since, a.Parcels = 1, a.Parcels[1:]
		b.Pages = []int{4} // page 2 would be lost
	}
	if is[unlike] {
		b.Meta.Pages = 11
	}
	if is[older] {
		b.Meta.Txid, b.Since, b.Parcels = 4, 3, []api.Parcel{anyParcel(t, 4, 4)}
	}
	if is[gap] {
		b.Since = 6
	}
	if is[lost] {
		b.Pages = append(b.Pages, 9)
	}
	a, b = summed(a), summed(b)
	if is[unsoundA] {
		a.Sum++
	}
	if is[unsoundB] {
		b.Sum++
	}
	return a, b
}

// Each refusal by itself, and all that can meet: the first one is told.
func TestP23_3_RefusalsInOrder(t *testing.T) {
	met := map[string]int{}
	for set := range 1 << reasons {
		var is [reasons]bool
		var want error
		for i := reasons - 1; i >= 0; i-- {
			if is[i] = set&(1<<i) != 0; is[i] {
				want = reasonErrors()[i]
			}
		}
		if is[older] && is[gap] {
			continue // an archive that is older begins ahead of its own transaction
		}
		a, b := twoFor(t, is)
		if err := wantMerged(t, fmt.Sprint(is), a, b); err != want {
			t.Errorf("%v: %v, want %v", is, err, want)
		}
		for i := range reasons {
			for j := range i {
				if is[i] && is[j] {
					met[fmt.Sprint(j, i)]++
				}
			}
		}
	}
	if want := reasons*(reasons-1)/2 - 1; len(met) != want {
		t.Errorf("%d pairs of reasons have met, want %d: %v", len(met), want, met)
	}
}

// Each thing that keeps an archive from being keeps it from being merged, on either side.
func TestP23_3_Unsound(t *testing.T) {
	whole := someWhole(t)
	for what, change := range map[string]func(a *api.Archive){
		"a Meta that may not be": func(a *api.Archive) { a.Meta.Root = 1 },
		"a Since above the Txid": func(a *api.Archive) { a.Since = 9 },
		"a page that is none":    func(a *api.Archive) { a.Pages[2] = 10 },
		"a parcel less":          func(a *api.Archive) { a.Parcels = a.Parcels[1:] },
		"a parcel too young":     func(a *api.Archive) { a.Parcels[0] = anyParcel(t, 2, 9) },
		"a spoilt parcel":        func(a *api.Archive) { a.Parcels[0].Data = a.Parcels[1].Data },
	} {
		bad := changed(whole, change)
		if err := wantMerged(t, what+" in a", bad, whole); err != api.ErrText {
			t.Errorf("%s in a: %v", what, err)
		}
		if err := wantMerged(t, what+" in b", whole, bad); err != api.ErrText {
			t.Errorf("%s in b: %v", what, err)
		}
		if err := wantMerged(t, what+" in b, a not whole", someLater(t), bad); err != api.ErrText {
			t.Errorf("%s in b, a not whole: %v", what, err)
		}
	}
	if err := wantMerged(t, "nothing", api.Archive{}, api.Archive{}); err != api.ErrText {
		t.Errorf("nothing: %v", err)
	}
}

// A page of b's whose parcel in a is at b.Since, below, and above it.
func TestP23_3_LostByATransaction(t *testing.T) {
	for in := uint64(1); in <= 9; in++ {
		a := wholeOf(10, 2, 9, anyParcel(t, 2, in), anyParcel(t, 3, 9))
		for since := uint64(1); since <= 9; since++ {
			b := summed(api.Archive{Meta: api.Meta{Pages: 10, Root: 4, Txid: 12}, Since: since, Pages: []int{2, 4}, Parcels: []api.Parcel{anyParcel(t, 4, 12)}})
			want := error(nil)
			if in > since {
				want = api.ErrLost
			}
			if err := wantMerged(t, "a parcel of a's", a, b); err != want {
				t.Errorf("by %d, since %d: %v, want %v", in, since, err, want)
			}
			b.Parcels = append([]api.Parcel{anyParcel(t, 2, since+1)}, b.Parcels...)
			if err := wantMerged(t, "a parcel of b's own", a, summed(b)); err != nil {
				t.Errorf("by %d, since %d, and b's own: %v", in, since, err)
			}
		}
	}
	// one is lost, whichever page it is
	a := wholeOf(10, 2, 9, anyParcel(t, 3, 3), anyParcel(t, 5, 5), anyParcel(t, 7, 7))
	for _, c := range []struct {
		since uint64
		pages []int
		want  error
	}{
		{7, []int{3, 5, 7}, nil}, {7, []int{5}, nil}, {7, nil, nil}, {6, []int{3, 5, 7}, api.ErrLost}, {6, []int{3, 5}, nil},
		{4, []int{3, 5}, api.ErrLost}, {4, []int{3}, nil}, {2, []int{3}, api.ErrLost}, {2, nil, nil},
		{9, []int{2, 3, 5, 7}, api.ErrLost}, {9, []int{3, 5, 6, 7}, api.ErrLost}, {9, []int{3, 5, 7, 9}, api.ErrLost}, {9, []int{4}, api.ErrLost},
	} {
		b := summed(api.Archive{Meta: api.Meta{Pages: 10, Txid: 9}, Since: c.since, Pages: c.pages})
		if err := wantMerged(t, "without parcels", a, b); err != c.want {
			t.Errorf("since %d, pages %v: %v, want %v", c.since, c.pages, err, c.want)
		}
	}
}

// The numbers of the two, at the edges of each refusal.
func TestP23_3_Edges(t *testing.T) {
	a := wholeOf(10, 2, 5, anyParcel(t, 2, 1))
	later := func(pages int, txid, since uint64) api.Archive {
		return summed(api.Archive{Meta: api.Meta{Pages: pages, Root: 2, Txid: txid}, Since: since, Pages: []int{2}})
	}
	for _, c := range []struct {
		pages       int
		txid, since uint64
		want        error
	}{
		{10, 5, 5, nil}, {10, 6, 5, nil}, {10, 9, 5, nil}, {10, 9, 1, nil}, {10, math.MaxUint64, 5, nil},
		{10, 4, 4, api.ErrOrder}, {10, 4, 1, api.ErrOrder}, {10, 1, 1, api.ErrOrder},
		{10, 6, 6, api.ErrShort}, {10, 9, 6, api.ErrShort}, {10, math.MaxUint64, math.MaxUint64, api.ErrShort},
		{9, 5, 5, api.ErrKind}, {11, 5, 5, api.ErrKind}, {11, 4, 4, api.ErrKind}, {9, 9, 6, api.ErrKind},
	} {
		if err := wantMerged(t, "at an edge", a, later(c.pages, c.txid, c.since)); err != c.want {
			t.Errorf("%d pages, at %d since %d: %v, want %v", c.pages, c.txid, c.since, err, c.want)
		}
	}
	empty := wholeOf(10, 0, 0)
	for what, b := range map[string]api.Archive{"itself": empty, "a store": a, "an empty one later": wholeOf(10, 0, 4)} {
		if err := wantMerged(t, "empty, and "+what, empty, b); err != nil {
			t.Errorf("empty, and %s: %v", what, err)
		}
	}
	if err := wantMerged(t, "empty behind", a, wholeOf(10, 0, 7)); err != nil {
		t.Errorf("empty behind: %v", err)
	}
	if err := wantMerged(t, "empty, older", a, empty); err != api.ErrOrder {
		t.Errorf("empty, older: %v", err)
	}
}

// Which parcel is taken: b's, if it has one, whatever a has; a's else; none of a page that b does not have.
func TestP23_3_WhoseParcel(t *testing.T) {
	a := wholeOf(12, 2, 5, leafParcel(t, 2, 3, pairs("a", "in a")), leafParcel(t, 4, 4, pairs("b", "in a")), leafParcel(t, 6, 2, pairs("c", "in a")), leafParcel(t, 8, 5, pairs("d", "in a")))
	b := summed(api.Archive{
		Meta: api.Meta{Pages: 12, Root: 9, Txid: 8}, Since: 3, Pages: []int{2, 4, 6, 9},
		Parcels: []api.Parcel{leafParcel(t, 4, 4, pairs("b", "in b")), leafParcel(t, 6, 8, pairs("c", "in b")), leafParcel(t, 9, 7, pairs("e", "in b"))},
	})
	want := wholeOf(12, 9, 8, a.Parcels[0], b.Parcels[0], b.Parcels[1], b.Parcels[2])
	if got := merge(t, a, b); !same(got, want) {
		t.Errorf("%s, want %s", show(got), show(want))
	}
	if got := merge(t, a, a); !same(got, a) {
		t.Errorf("with itself: %s", show(got))
	}
	c := wholeOf(12, 3, 6, leafParcel(t, 3, 1, pairs("a", "in c")), leafParcel(t, 8, 1, pairs("d", "in c")))
	if got := merge(t, a, c); !same(got, c) {
		t.Errorf("with a whole one: %s, want %s", show(got), show(c))
	}
}

// anyTwo are a whole archive, or nearly one, and another one, by chance.
func anyTwo(t *testing.T, r *rand.Rand) (api.Archive, api.Archive) {
	a, b := api.Archive{Meta: api.Meta{Pages: 8, Txid: 1 + uint64(r.Intn(6))}}, api.Archive{Meta: api.Meta{Pages: 8 + r.Intn(12)/11}}
	a.Since = uint64(r.Intn(12)) / 11
	b.Meta.Txid = a.Meta.Txid + uint64(r.Intn(6)) - 1
	if r.Intn(8) > 0 {
		b.Since = min(uint64(1+r.Intn(7)), b.Meta.Txid)
	}
	for id := 2; id < 8; id++ {
		if r.Intn(4) > 0 {
			a.Pages = append(a.Pages, id)
			a.Parcels = append(a.Parcels, anyParcel(t, id, a.Since+1+uint64(r.Intn(int(a.Meta.Txid-a.Since)+1))/2))
		}
		if r.Intn(3) > 0 {
			continue
		}
		b.Pages = append(b.Pages, id)
		if b.Since < b.Meta.Txid && (b.Since == 0 || r.Intn(3) > 0) {
			b.Parcels = append(b.Parcels, anyParcel(t, id, b.Since+1+uint64(r.Intn(int(b.Meta.Txid-b.Since)))))
		}
	}
	if r.Intn(20) == 0 {
		spoil(t, r, &b)
	}
	return summed(a), summed(b)
}

func TestP23_3_AnyArchives(t *testing.T) {
	t.Parallel()
	r := rand.New(rand.NewSource(233))
	seen := map[error]int{}
	for range 5000 {
		a, b := anyTwo(t, r)
		seen[wantMerged(t, "by chance", a, b)]++
	}
	for _, err := range []error{nil, api.ErrText, api.ErrArg, api.ErrKind, api.ErrOrder, api.ErrShort, api.ErrLost} {
		if seen[err] < 100 {
			t.Errorf("%v was met %d times", err, seen[err])
		}
	}
	if seen[nil] < 1000 {
		t.Errorf("only %d were merged", seen[nil])
	}
}
