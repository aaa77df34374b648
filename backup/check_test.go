package backup_test

import (
	"fmt"
	"math"
	"math/rand"
	"slices"
	"strings"
	"testing"

	"copse/api"
	"copse/backup"
	"copse/device"
	"copse/sheet"
)

// wantChecked wants of Check what the plain form has, and that an archive that is not sound is refused wherever one is handed in.
func wantChecked(t *testing.T, what string, a api.Archive, sound bool) {
	t.Helper()
	if (plainCheck(a) == nil) != sound {
		t.Fatalf("%s: %s: the plain form says %v", what, show(a), plainCheck(a))
	}
	err := backup.Check(a)
	if sound != (err == nil) || !sound && err != api.ErrText {
		t.Errorf("%s: %s: Check: %v", what, show(a), err)
	}
	if sound {
		return
	}
	if m, err := backup.Merge(a, a); err != api.ErrText || !zero(m) {
		t.Errorf("%s: %s: Merge: %v", what, show(a), err)
	}
	d := device.New(80)
	if err := backup.Restore(d, a); err != api.ErrText || !imageOf(d).same(imageOf(device.New(80))) {
		t.Errorf("%s: %s: Restore: %v", what, show(a), err)
	}
}

// someWhole is a whole archive of three pages, someLater one since transaction 4 of five pages, of which three have parcels.
func someWhole(t *testing.T) api.Archive {
	return wholeOf(10, 5, 8, anyParcel(t, 2, 1), anyParcel(t, 5, 8), anyParcel(t, 9, 4))
}

func someLater(t *testing.T) api.Archive {
	return summed(api.Archive{
		Meta: api.Meta{Pages: 10, Root: 7, Txid: 8}, Since: 4, Pages: []int{2, 3, 5, 7, 9},
		Parcels: []api.Parcel{anyParcel(t, 3, 5), anyParcel(t, 7, 8), anyParcel(t, 9, 6)},
	})
}

// changed is an archive in memory of its own, changed and summed anew.
func changed(a api.Archive, change func(a *api.Archive)) api.Archive {
	a.Pages, a.Parcels = slices.Clone(a.Pages), slices.Clone(a.Parcels)
	change(&a)
	return summed(a)
}

// variant is a change of an archive, and whether what comes out may be.
type variant struct {
	what   string
	change func(a *api.Archive)
	sound  bool
}

func wantVariants(t *testing.T, base api.Archive, l []variant) {
	t.Helper()
	wantChecked(t, "as it is", base, true)
	for _, v := range l {
		wantChecked(t, v.what, changed(base, v.change), v.sound)
	}
}

func TestP23_2_Meta(t *testing.T) {
	for _, base := range []api.Archive{someWhole(t), someLater(t)} {
		var l []variant
		for _, pages := range []int{math.MinInt, -10, -1, 0, 3, 9, 10, 11, 16, 1 << 20, 1<<20 + 1, 1<<32 + 10, math.MaxInt} {
			may := pages == 10 || pages == 11 || pages == 16 || pages == 1<<20
			l = append(l, variant{fmt.Sprint("Pages ", pages), func(a *api.Archive) { a.Meta.Pages = pages }, may})
		}
		for _, root := range []int{math.MinInt, -2, -1, 0, 1, 2, 3, 8, 9, 10, 11, 1 << 32, 1<<32 + 5, math.MaxInt} {
			may := root == 0 || root >= 2 && root <= 9
			l = append(l, variant{fmt.Sprint("Root ", root), func(a *api.Archive) { a.Meta.Root = root }, may})
		}
		for _, txid := range []uint64{0, 1, 7, 8, 9, 1 << 32, math.MaxUint64} {
			l = append(l, variant{fmt.Sprint("Txid ", txid), func(a *api.Archive) { a.Meta.Txid = txid }, txid >= 8})
		}
		wantVariants(t, base, l)
	}
	wantVariants(t, wholeOf(4, 0, 0), []variant{
		{"Pages 3", func(a *api.Archive) { a.Meta.Pages = 3 }, false},
		{"Root 3", func(a *api.Archive) { a.Meta.Root = 3 }, true},
		{"Root 4", func(a *api.Archive) { a.Meta.Root = 4 }, false},
		{"MaxPages", func(a *api.Archive) { a.Meta.Pages = api.MaxPages }, true},
	})
	wantChecked(t, "nothing", api.Archive{}, false)
	wantChecked(t, "nothing but its sum", summed(api.Archive{}), false)
}

func TestP23_2_Since(t *testing.T) {
	var l []variant
	for _, since := range []uint64{0, 1, 2, 3, 4, 5, 6, 8, 9, math.MaxUint64} {
		// 0 asks for a parcel for each page; 5 is at one's transaction, 6 and above are beyond one's.
		l = append(l, variant{fmt.Sprint("Since ", since), func(a *api.Archive) { a.Since = since }, since >= 1 && since <= 4})
	}
	wantVariants(t, someLater(t), l)
	bare := summed(api.Archive{Meta: api.Meta{Pages: 10, Root: 7, Txid: 8}, Since: 4, Pages: []int{2, 9}})
	wantVariants(t, bare, []variant{
		{"at the Txid", func(a *api.Archive) { a.Since = 8 }, true},
		{"above the Txid", func(a *api.Archive) { a.Since = 9 }, false},
		{"far above it", func(a *api.Archive) { a.Since = math.MaxUint64 }, false},
		{"0, and parcels lack", func(a *api.Archive) { a.Since = 0 }, false},
		{"0, without pages", func(a *api.Archive) { a.Since, a.Pages = 0, nil }, true},
		{"at the last Txid", func(a *api.Archive) { a.Since, a.Meta.Txid = math.MaxUint64, math.MaxUint64 }, true},
	})
}

func TestP23_2_Pages(t *testing.T) {
	pages := func(l ...int) func(a *api.Archive) { return func(a *api.Archive) { a.Pages = l } }
	wantVariants(t, someLater(t), []variant{
		{"all there can be", pages(2, 3, 4, 5, 6, 7, 8, 9), true},
		{"those of the parcels", pages(3, 7, 9), true},
		{"two are one", pages(2, 3, 3, 5, 7, 9), false},
		{"two are one, without a parcel", pages(2, 2, 3, 5, 7, 9), false},
		{"two fall", pages(3, 2, 5, 7, 9), false},
		{"the last falls", pages(2, 3, 5, 7, 9, 8), false},
		{"the first falls", pages(9, 2, 3, 5, 7, 9), false},
		{"1 among them", pages(1, 2, 3, 5, 7, 9), false},
		{"0 among them", pages(0, 2, 3, 5, 7, 9), false},
		{"-1 among them", pages(-1, 3, 7, 9), false},
		{"the least number", pages(math.MinInt, 3, 7, 9), false},
		{"10 among them", pages(3, 7, 9, 10), false},
		{"the greatest number", pages(3, 7, 9, math.MaxInt), false},
		{"the greatest and the least", pages(3, 7, 9, math.MaxInt, math.MinInt), false},
		{"one less with a parcel", pages(2, 3, 5, 7), false},
		{"another one less with a parcel", pages(2, 5, 7, 9), false},
		{"one instead of another", pages(3, 8, 9), false},
		{"none", pages(), false},
	})
	wantVariants(t, someWhole(t), []variant{
		{"one more", pages(2, 3, 5, 9), false},
		{"one more at the end", pages(2, 5, 8, 9), false},
		{"one less", pages(2, 5), false},
		{"one instead of another", pages(2, 6, 9), false},
		{"none", pages(), false},
		{"falling", pages(9, 5, 2), false},
		{"neither pages nor parcels", func(a *api.Archive) { a.Pages, a.Parcels = nil, nil }, true},
	})
}

func TestP23_2_Parcels(t *testing.T) {
	parcels := func(l ...api.Parcel) func(a *api.Archive) { return func(a *api.Archive) { a.Parcels = l } }
	two, three, seven, nine := anyParcel(t, 2, 6), anyParcel(t, 3, 5), anyParcel(t, 7, 8), anyParcel(t, 9, 6)
	wantVariants(t, someLater(t), []variant{
		{"one more", parcels(two, three, seven, nine), true},
		{"one less", parcels(three, seven), true},
		{"another one less", parcels(seven, nine), true},
		{"none", parcels(), true},
		{"the first and the last", parcels(two, nine), true},
		{"one twice", parcels(three, three, seven), false},
		{"the last twice", parcels(three, nine, nine), false},
		{"falling", parcels(seven, three, nine), false},
		{"falling at the end", parcels(three, nine, seven), false},
		{"of none of the pages", parcels(three, anyParcel(t, 4, 5), seven), false},
		{"of none of the pages, the last", parcels(three, anyParcel(t, 8, 5)), false},
		{"of a page above the meta's", parcels(three, anyParcel(t, 11, 5)), false},
		{"one of none of the pages alone", parcels(anyParcel(t, 6, 5)), false},
	})
	whole := someWhole(t)
	wantVariants(t, whole, []variant{
		{"the first less", parcels(whole.Parcels[1:]...), false},
		{"the last less", parcels(whole.Parcels[:2]...), false},
		{"the middle less", parcels(whole.Parcels[0], whole.Parcels[2]), false},
		{"none", parcels(), false},
		{"one twice instead of another", parcels(whole.Parcels[0], whole.Parcels[0], whole.Parcels[2]), false},
		{"one of no page instead of another", parcels(whole.Parcels[0], whole.Parcels[1], anyParcel(t, 8, 4)), false},
	})
	// All numbers that a page may not have, in a parcel whose page is of another one.
	for _, id := range []int{math.MinInt, -1, 0, 1, 3, 10, 1 << 20, 1 << 32, math.MaxInt} {
		a := changed(someLater(t), func(a *api.Archive) { a.Parcels[0].ID = id })
		wantChecked(t, fmt.Sprint("a parcel of the page ", id), a, id == 3)
	}
}

// A parcel's transaction at and around Since and the meta's, its page saying the same.
func TestP23_2_TransactionsOfParcels(t *testing.T) {
	for _, txid := range []uint64{0, 1, 3, 4, 5, 6, 7, 8, 9, 10, math.MaxUint64} {
		for i, id := range []int{3, 7, 9} {
			a := changed(someLater(t), func(a *api.Archive) { a.Parcels[i] = anyParcel(t, id, txid) })
			wantChecked(t, fmt.Sprintf("parcel %d by %d", i, txid), a, txid > 4 && txid <= 8)
		}
		a := changed(someWhole(t), func(a *api.Archive) { a.Parcels[1] = anyParcel(t, 5, txid) })
		wantChecked(t, fmt.Sprintf("of a whole one, by %d", txid), a, txid > 0 && txid <= 8)
	}
	for _, said := range []uint64{0, 4, 5, 6, 7, 8, 9} { // and what the parcel says, the page being by 6
		a := changed(someLater(t), func(a *api.Archive) { a.Parcels[2].Txid = said })
		wantChecked(t, fmt.Sprintf("by 6, said to be by %d", said), a, said == 6)
	}
}

func TestP23_2_Data(t *testing.T) {
	seven := anyParcel(t, 7, 8).Data
	data := func(s string) func(a *api.Archive) { return func(a *api.Archive) { a.Parcels[1].Data = s } }
	leafless, err := sheet.Seal(api.Sheet{Kind: api.KindLeaf, ID: 7, Txid: 8, Count: 9, Body: strings.Repeat("x", api.BodyBytes)})
	must(t, err)
	l := []variant{
		{"none", data(""), false},
		{"a byte less", data(seven[:4095]), false},
		{"a byte less at its beginning", data(seven[1:]), false},
		{"a byte more", data(seven + "\x00"), false},
		{"a byte more at its beginning", data("\x00" + seven), false},
		{"twice", data(seven + seven), false},
		{"of another page", data(anyParcel(t, 3, 8).Data), false},
		{"of a page without a parcel", data(anyParcel(t, 5, 8).Data), false},
		{"by another transaction", data(anyParcel(t, 7, 7).Data), false},
		{"zeros", data(strings.Repeat("\x00", 4096)), false},
		{"a leaf's pairs are others", data(leafParcel(t, 7, 8, pairs("x", "y")).Data), true},
		{"a branch", data(branchParcel(t, 7, 8, []int{2, 3}, "m").Data), true},
		{"a page that is no node", data(string(leafless)), true},
	}
	for _, at := range []int{0, 1, 2, 3, 4, 7, 8, 15, 16, 19, 20, 23, 24, 30, 100, 511, 512, 2048, 4000, 4095} {
		for _, bit := range []byte{1, 16, 128} {
			p := []byte(seven)
			p[at] ^= bit
			l = append(l, variant{fmt.Sprintf("byte %d changed by %d", at, bit), data(string(p)), false})
		}
	}
	wantVariants(t, someLater(t), l)
	// and the same of the first and the last parcel of a whole one
	for i := range 3 {
		a := changed(someWhole(t), func(a *api.Archive) {
			p := []byte(a.Parcels[i].Data)
			p[4000] ^= 1
			a.Parcels[i].Data = string(p)
		})
		wantChecked(t, fmt.Sprintf("parcel %d is spoilt", i), a, false)
	}
}

// Each number and each page counts in the sum: with any of them changed, so that the archive may still be, the old sum is not its own.
func TestP23_2_Sum(t *testing.T) {
	whole, later := someWhole(t), someLater(t)
	for _, c := range []struct {
		what   string
		a      api.Archive
		change func(a *api.Archive)
	}{
		{"Pages", later, func(a *api.Archive) { a.Meta.Pages++ }},
		{"Pages, high", later, func(a *api.Archive) { a.Meta.Pages += 1 << 16 }},
		{"Root", later, func(a *api.Archive) { a.Meta.Root-- }},
		{"Root", whole, func(a *api.Archive) { a.Meta.Root = 0 }},
		{"Txid", later, func(a *api.Archive) { a.Meta.Txid++ }},
		{"Txid, high", whole, func(a *api.Archive) { a.Meta.Txid += 1 << 40 }},
		{"Since", later, func(a *api.Archive) { a.Since-- }},
		{"Since of a whole one", wholeOf(10, 0, 2), func(a *api.Archive) { a.Since++ }},
		{"a page", later, func(a *api.Archive) { a.Pages[2]++ }},
		{"a page more", later, func(a *api.Archive) { a.Pages = []int{2, 3, 4, 5, 7, 9} }},
		{"a page less", later, func(a *api.Archive) { a.Pages = a.Pages[1:] }},
		{"a parcel less", later, func(a *api.Archive) { a.Parcels = a.Parcels[:2] }},
		{"a parcel more", later, func(a *api.Archive) { a.Parcels = append([]api.Parcel{anyParcel(t, 2, 5)}, a.Parcels...) }},
		{"a parcel of another page", later, func(a *api.Archive) { a.Parcels[0] = anyParcel(t, 2, 5) }},
		{"a parcel by another transaction", later, func(a *api.Archive) { a.Parcels[0] = anyParcel(t, 3, 6) }},
		{"a parcel's bytes", later, func(a *api.Archive) { a.Parcels[1] = leafParcel(t, 7, 8, pairs("x", "y")) }},
		{"the last parcel's bytes", whole, func(a *api.Archive) { a.Parcels[2] = leafParcel(t, 9, 4, pairs("x", "y")) }},
	} {
		a := changed(c.a, c.change)
		wantChecked(t, c.what+", with its own sum", a, true)
		a.Sum = c.a.Sum
		wantChecked(t, c.what+", with the old sum", a, false)
	}
	for _, base := range []api.Archive{whole, later, wholeOf(4, 0, 0)} {
		for bit := range 32 {
			a := base
			a.Sum ^= 1 << bit
			wantChecked(t, "another sum", a, false)
		}
		a := base
		a.Sum = 0
		wantChecked(t, "no sum", a, false)
	}
}

// The sum's bytes stand in the chapter's order, and no number is summed in more or fewer of them.
func TestP23_2_SumByHand(t *testing.T) {
	data := anyParcel(t, 3, 0x0102030405060708).Data
	a := api.Archive{
		Meta:  api.Meta{Pages: 0x0B0C0D, Root: 0x060504, Txid: 0xF1F2F3F4F5F6F7F8},
		Since: 0x0102030405060700, Pages: []int{2, 3, 0x0A0B0C},
		Parcels: []api.Parcel{{ID: 3, Txid: 0x0102030405060708, Data: data}},
	}
	a.Sum = crc([]byte("\x00\x0B\x0C\x0D\x00\x06\x05\x04\xF1\xF2\xF3\xF4\xF5\xF6\xF7\xF8\x01\x02\x03\x04\x05\x06\x07\x00" +
		"\x00\x00\x00\x03\x00\x00\x00\x02\x00\x00\x00\x03\x00\x0A\x0B\x0C\x00\x00\x00\x01\x00\x00\x00\x03\x01\x02\x03\x04\x05\x06\x07\x08" + data))
	wantChecked(t, "by hand", a, true)
	empty := wholeOf(4, 0, 0)
	if empty.Sum != crc([]byte("\x00\x00\x00\x04"+strings.Repeat("\x00", 28))) {
		t.Errorf("the plain sum is %08x", empty.Sum)
	}
	wantChecked(t, "by hand, empty", empty, true)
}

// anyArchive is an archive by chance, that often may be.
func anyArchive(t *testing.T, r *rand.Rand) api.Archive {
	a := api.Archive{Meta: api.Meta{Pages: 4 + r.Intn(12), Txid: uint64(r.Intn(6))}}
	if r.Intn(2) == 0 {
		a.Since = uint64(r.Intn(4))
	}
	if a.Meta.Root = r.Intn(a.Meta.Pages); a.Meta.Root == 1 && r.Intn(9) > 0 {
		a.Meta.Root = 0
	}
	for id := 2; id < a.Meta.Pages+r.Intn(20)/19; id++ {
		if r.Intn(3) == 0 {
			continue
		}
		a.Pages = append(a.Pages, id)
		if a.Since == 0 && r.Intn(30) > 0 || r.Intn(2) == 0 {
			txid := a.Since + 1
			if a.Meta.Txid > a.Since {
				txid += uint64(r.Intn(int(a.Meta.Txid - a.Since)))
			}
			a.Parcels = append(a.Parcels, anyParcel(t, id, txid))
		}
	}
	return a
}

// spoil changes something in an archive.
func spoil(t *testing.T, r *rand.Rand, a *api.Archive) {
	if n := len(a.Pages); n > 0 {
		switch i := r.Intn(n); r.Intn(6) {
		case 0:
			a.Pages[i] += r.Intn(3) - 1
		case 1:
			a.Pages = slices.Delete(a.Pages, i, i+1)
		}
	}
	if n := len(a.Parcels); n > 0 {
		switch i := r.Intn(n); r.Intn(12) {
		case 0:
			a.Parcels[i].ID += r.Intn(3) - 1
		case 1:
			a.Parcels[i].Txid += uint64(r.Intn(3)) - 1
		case 2:
			a.Parcels = slices.Delete(a.Parcels, i, i+1)
		case 3:
			a.Parcels[i] = anyParcel(t, a.Parcels[i].ID, uint64(r.Intn(7)))
		case 4:
			p := []byte(a.Parcels[i].Data)
			p[r.Intn(len(p))] ^= 1 << r.Intn(8)
			a.Parcels[i].Data = string(p)
		case 5:
			a.Parcels[i].Data = a.Parcels[r.Intn(n)].Data
		}
	}
	switch r.Intn(8) {
	case 0:
		a.Since += uint64(r.Intn(3)) - 1
	case 1:
		a.Meta.Txid += uint64(r.Intn(3)) - 1
	case 2:
		a.Meta.Pages += r.Intn(3) - 1
	case 3:
		a.Meta.Root += r.Intn(3) - 1
	}
}

func TestP23_2_AnyArchives(t *testing.T) {
	t.Parallel()
	r := rand.New(rand.NewSource(232))
	seen := map[bool]int{}
	for i := range 6000 {
		a := anyArchive(t, r)
		for range r.Intn(3) {
			spoil(t, r, &a)
		}
		if i%5 > 0 {
			a = summed(a)
		}
		sound := plainCheck(a) == nil
		wantChecked(t, "by chance", a, sound)
		seen[sound]++
	}
	if seen[true] < 1000 || seen[false] < 2500 {
		t.Errorf("sound: %v", seen)
	}
}
