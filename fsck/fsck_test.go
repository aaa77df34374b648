package fsck_test

import (
	"slices"
	"testing"

	"copse/api"
	"copse/device"
	"copse/fsck"
	"copse/kv"
	"copse/sheet"
	"copse/walk"
)

// The chapter's examples, line by line.
func TestExamples(t *testing.T) {
	lost := newDisk(t, 4).meta(2, 2).leaf(3, 1, pairs("a", "1"))
	for _, c := range []struct {
		what     string
		d        *disk
		sound    bool
		findings []api.Finding
		saved    []api.Pair
	}{
		{"nothing", newDisk(t, 4), false, found(-1, api.FindMeta), nil},
		{"M(0, 0)", newDisk(t, 4).meta(0, 0), true, nil, nil},
		{"x in slot 0", newDisk(t, 4).meta(2, 1).leaf(2, 1, pairs("a", "1")).write(0, junk()), true, found(-1, api.FindMeta), pairs("a", "1")},
		{"nothing in page 2", lost, false, found(2, api.FindPage), pairs("a", "1")},
		{"younger than its meta", newDisk(t, 4).meta(2, 2).leaf(2, 3, pairs("a", "1")).leaf(3, 2, pairs("a", "2", "b", "3")), false, found(2, api.FindTxid), pairs("a", "2", "b", "3")},
		{"nothing in the slots", newDisk(t, 4).leaf(2, 7, pairs("a", "1")).leaf(3, 7, pairs("a", "2")), false, found(-1, api.FindMeta), pairs("a", "2")},
		{"the children 3 and 9", newDisk(t, 4).meta(2, 2).branch(2, 2, over([]int{3, 9}, "m")).leaf(3, 1, pairs("a", "1")), false, found(3, api.FindFill, 9, api.FindBounds), pairs("a", "1")},
		{"the children 3 and 3", newDisk(t, 4).meta(2, 2).page(2, rawSheet(t, api.KindBranch, 2, 2, linkCell("", 3), linkCell("m", 3))).leaf(3, 1, pairs("a", "1")), false, found(2, api.FindNode), pairs("a", "1")},
	} {
		r, err := fsck.Examine(c.d.Device)
		if err != nil || r.Sound != c.sound || !slices.Equal(r.Findings, c.findings) {
			t.Errorf("%s: Examine: sound %v, %v, %v; want sound %v, %v", c.what, r.Sound, r.Findings, err, c.sound, c.findings)
		}
		l, err := fsck.Salvage(c.d.Device)
		if err != nil || !slices.Equal(l, c.saved) {
			t.Errorf("%s: Salvage: %s, %v; want %s", c.what, show(l), err, show(c.saved))
		}
	}
	small := device.New(31)
	r, err := fsck.Examine(small)
	if err != nil || !sameReport(r, api.Report{Findings: found(-1, api.FindBounds)}) {
		t.Errorf("31 sectors: Examine: %v, %v", r, err)
	}
	if l, err := fsck.Salvage(small); len(l) != 0 || err != api.ErrCorrupt {
		t.Errorf("31 sectors: Salvage: %s, %v", show(l), err)
	}
	if n, err := fsck.Repair(lost.Device); n != 1 || err != nil {
		t.Errorf("Repair: %d, %v", n, err)
	}
	r, err = fsck.Examine(lost.Device)
	want := api.Report{Sound: true, Survey: api.Survey{Meta: api.Meta{Pages: 4, Root: 2, Txid: 1}, Slot: 1, Depth: 1, Pages: []int{2}, Pairs: 1, Bytes: 2}}
	if err != nil || !sameReport(r, want) {
		t.Errorf("Examine behind it: %v, %v", r, err)
	}
	if s, err := sheet.Load(lost.Device, 2); err != nil || s != leafSheet(t, 2, 1, pairs("a", "1")) {
		t.Errorf("page 2 behind it: %v, %v", s, err)
	}
}

// Example 9 of the whole: the byte 10 of page 2's first sector is changed by hand.
func TestExampleOfTheWhole(t *testing.T) {
	d := device.New(64)
	s := kv.New(d)
	must(t, s.Format())
	must(t, s.Open())
	for _, p := range pairs("a", "1", "b", "2", "a", "3", "c", "4") {
		must(t, s.Begin())
		must(t, s.Put(p.Key, p.Value))
		must(t, s.Commit())
	}
	must(t, s.Begin())
	_, err := s.Delete("c")
	must(t, err)
	must(t, s.Commit())
	survey, err := walk.Survey(d)
	if err != nil || survey.Meta.Root != 2 {
		t.Fatalf("the root is %d, %v", survey.Meta.Root, err)
	}
	p, err := d.Read(16, 1)
	must(t, err)
	p[10]++
	must(t, d.Write(16, p))
	must(t, d.Sync())
	if err := kv.New(d).Open(); err != api.ErrCorrupt {
		t.Errorf("open: %v", err)
	}
	wantFound(t, "a byte is changed", d, false, 2, api.FindPage)
	wantSaved(t, "a byte is changed", d, "a", "3", "b", "2", "c", "4")
}
