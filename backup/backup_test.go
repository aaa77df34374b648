package backup_test

import (
	"slices"
	"testing"

	"copse/api"
	"copse/backup"
	"copse/device"
	"copse/walk"
)

// The chapter's examples, line by line.
func TestExamples(t *testing.T) {
	d := example(t)
	page, err := d.Read(24, 8)
	must(t, err)
	first, err := backup.Take(d, 0)
	want := summed(api.Archive{Meta: api.Meta{Pages: 10, Root: 3, Txid: 2}, Pages: []int{3}, Parcels: []api.Parcel{{ID: 3, Txid: 2, Data: string(page)}}})
	if err != nil || !same(first, want) {
		t.Errorf("Take(d, 0): %s, %v; want %s", show(first), err, show(want))
	}
	second, err := backup.Take(d, 2)
	want = summed(api.Archive{Meta: api.Meta{Pages: 10, Root: 3, Txid: 2}, Since: 2, Pages: []int{3}})
	if err != nil || !same(second, want) {
		t.Errorf("Take(d, 2): %s, %v; want %s", show(second), err, show(want))
	}
	if a, err := backup.Take(d, 3); !zero(a) || err != api.ErrArg {
		t.Errorf("Take(d, 3): %s, %v", show(a), err)
	}
	if a, err := backup.Take(device.New(80), 0); !zero(a) || err != api.ErrCorrupt {
		t.Errorf("Take of zeros: %s, %v", show(a), err)
	}
	sum, since, less := first, first, first
	sum.Sum++
	since.Since = 1
	less.Pages = nil
	for what, a := range map[string]api.Archive{"the Sum changed": sum, "Since 1": since, "a page less": less} {
		if err := backup.Check(a); err != api.ErrText {
			t.Errorf("Check with %s: %v", what, err)
		}
	}
	if err := backup.Check(first); err != nil {
		t.Errorf("Check: %v", err)
	}
	if a, err := backup.Merge(first, second); err != nil || !same(a, first) {
		t.Errorf("Merge(the first, the second): %s, %v", show(a), err)
	}
	if a, err := backup.Merge(second, first); !zero(a) || err != api.ErrArg {
		t.Errorf("Merge(the second, the first): %s, %v", show(a), err)
	}
	to := device.New(80)
	if err := backup.Restore(to, first); err != nil {
		t.Errorf("Restore: %v", err)
	}
	if l, err := walk.Content(to); err != nil || !slices.Equal(l, pairs("a", "1", "b", "2")) {
		t.Errorf("Content of what was restored: %q, %v", l, err)
	}
	if err := backup.Restore(device.New(88), first); err != api.ErrArg {
		t.Errorf("Restore to eleven pages: %v", err)
	}
	if err := backup.Restore(device.New(80), second); err != api.ErrArg {
		t.Errorf("Restore of the second: %v", err)
	}
	bare := wholeOf(10, 3, 2, branchParcel(t, 3, 2, []int{4, 5}, "m"))
	must(t, backup.Check(bare))
	if err := backup.Restore(device.New(80), bare); err != api.ErrCorrupt {
		t.Errorf("Restore of a branch with no leaves: %v", err)
	}
	four := device.New(32)
	if err := backup.Compact(d, four); err != nil {
		t.Errorf("Compact: %v", err)
	}
	s, err := walk.Survey(four)
	if err != nil || !slices.Equal(s.Pages, []int{2}) || s.Meta != (api.Meta{Pages: 4, Root: 2, Txid: 1}) {
		t.Errorf("Survey of what was compacted: %v, %v", s, err)
	}
}
