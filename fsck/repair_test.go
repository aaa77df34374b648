package fsck_test

import (
	"fmt"
	"math/rand"
	"slices"
	"testing"

	"copse/api"
	"copse/device"
	"copse/dump"
	"copse/fsck"
	"copse/walk"
)

// repairByHand is what P22.4 does, by Salvage's plain form and by Bulk.
func repairByHand(d *device.Device) (int, error) {
	l, err := plainSalvage(d)
	if err != nil {
		return 0, err
	}
	if _, unsound := walk.Survey(d); unsound == nil {
		return len(l), nil
	}
	if err := dump.Bulk(d, l); err != nil {
		return 0, err
	}
	return len(l), nil
}

// wantRepaired wants a Repair to do what is done by hand to a device like it, and what follows behind it; it answers the Repair's error.
func wantRepaired(t *testing.T, what string, d *device.Device) error {
	t.Helper()
	before := imageOf(d)
	saved, savedErr := fsck.Salvage(d)
	report, _ := fsck.Examine(d)
	other := clone(t, d)
	if d.Dead() {
		other.Crash(nil)
	}
	want, wantErr := repairByHand(other)
	n, err := fsck.Repair(d)
	if n != want || err != wantErr {
		t.Errorf("%s: Repair: %d, %v; want %d, %v", what, n, err, want, wantErr)
	}
	after := imageOf(d)
	if (err != nil || report.Sound) && !after.same(before) {
		t.Errorf("%s: Repair, %v: something was written or synced", what, err)
	}
	after.written, after.sync = after.written-before.written, after.sync-before.sync
	if len(before.pending) == 0 && !after.same(imageOf(other)) {
		t.Errorf("%s: Repair, %v: the device is not as by hand: %d written and %d syncs", what, err, after.written, after.sync)
	}
	if savedErr != nil && (n != 0 || err != savedErr) {
		t.Errorf("%s: Repair: %d, %v; Salvage: %v", what, n, err, savedErr)
	}
	if err == nil {
		wantSound(t, what+", mended", d, saved)
	}
	return err
}

// wantSound wants a sound device with just these pairs, which a second Repair leaves as it is.
func wantSound(t *testing.T, what string, d *device.Device, l []api.Pair) {
	t.Helper()
	r, again := wantAsPlain(t, what, d)
	content, err := walk.Content(d)
	if !r.Sound || err != nil || !slices.Equal(content, l) || !slices.Equal(again, l) {
		t.Errorf("%s: sound %v, content %s, %v, saved %s; want %s", what, r.Sound, show(content), err, show(again), show(l))
	}
	before := imageOf(d)
	if n, err := fsck.Repair(d); n != len(l) || err != nil || !imageOf(d).same(before) {
		t.Errorf("%s: a second Repair: %d, %v; want %d, and nothing done", what, n, err, len(l))
	}
}

func TestP22_4_Refusals(t *testing.T) {
	for _, n := range []int{0, 8, 31} {
		for _, dead := range []bool{false, true} {
			d := device.New(n)
			if n > 0 {
				must(t, d.Write(0, junk()))
				must(t, d.Sync())
			}
			if dead {
				d.Crash(nil)
			}
			if err := wantRepaired(t, "too small", d); err != api.ErrCorrupt {
				t.Errorf("%d sectors, dead %v: %v", n, dead, err)
			}
		}
	}
	for what, d := range map[string]*disk{"zeros": newDisk(t, 4), "a store": newWood().lay(t), "a leaf alone": newDisk(t, 4).leaf(2, 1, pairs("a", "1"))} {
		d.synced().Crash(nil)
		if err := wantRepaired(t, what+", dead", d.Device); err != api.ErrDead {
			t.Errorf("%s, dead: %v", what, err)
		}
	}
}

// A sound device is left as it is, to the byte, what is pending too; an arm does not go off.
func TestP22_4_Sound(t *testing.T) {
	for what, d := range map[string]*disk{
		"the wood":       newWood().lay(t),
		"an empty store": newDisk(t, 4).meta(0, 0),
		"a leaf":         newDisk(t, 4).meta(2, 1).leaf(2, 1, pairs("a", "1", "b", "2")),
		"a spoilt slot":  newDisk(t, 4).meta(2, 1).leaf(2, 1, pairs("a", "1", "b", "2")).write(0, junk()),
		"junk beside":    newWood().lay(t).write(8*24, junk()).write(1, junk()),
	} {
		pairs, err := walk.Content(d.Device)
		must(t, err)
		for _, synced := range []bool{false, true} {
			if synced {
				d.synced()
			}
			d.Arm(0, nil)
			before := imageOf(d.Device)
			n, err := fsck.Repair(d.Device)
			if n != len(pairs) || err != nil || !imageOf(d.Device).same(before) {
				t.Errorf("%s, synced %v: Repair: %d, %v; want %d, and nothing done", what, synced, n, err, len(pairs))
			}
			wantAsPlain(t, what, d.Device)
			if err := d.Sync(); err != api.ErrDead { // which takes the arm away
				t.Errorf("%s: the arm has gone off", what)
			}
			d.Revive()
		}
	}
}

// spoilt are devices with something in them that are not sound.
func spoilt(t *testing.T) map[string]*disk {
	w := newWood()
	w.txids[5] = 10
	return map[string]*disk{
		"zeros":            newDisk(t, 4),
		"zeros and more":   {device.New(8*5 + 3), t, 5},
		"junk":             newDisk(t, 4).write(0, junk()).write(8, junk()).write(16, junk()),
		"a leaf alone":     newDisk(t, 4).leaf(3, 7, pairs("a", "1")),
		"a page too young": w.lay(t),
		"no root":          newWood().lay(t).write(8*22, junk()),
		"no branch":        newWood().lay(t).write(8*20, junk()).write(0, junk()),
		"no meta":          newWood().lay(t).write(8, make([]byte, 512)),
		"three leaves":     newDisk(t, 9).meta(8, 6).leaf(3, 5, big("a", "b", "c")).leaf(5, 2, big("b", "c", "d")).leaf(7, 6, big("e")),
	}
}

func TestP22_4_Mended(t *testing.T) {
	for what, d := range spoilt(t) {
		if err := wantRepaired(t, what, d.synced().Device); err != nil {
			t.Errorf("%s: %v", what, err)
		}
		if s, err := walk.Survey(d.Device); err != nil || s.Meta.Txid != 1 {
			t.Errorf("%s: meta %v, %v; want transaction 1", what, s.Meta, err)
		}
	}
	for what, d := range spoilt(t) { // with all of it pending
		want, err := plainSalvage(d.Device)
		must(t, err)
		if n, err := fsck.Repair(d.Device); n != len(want) || err != nil {
			t.Errorf("%s, pending: %d, %v", what, n, err)
		}
		wantSound(t, what+", pending", d.Device, want)
	}
}

// crowded is a device of so many pages, none of them a meta, each but the first two with a full leaf, or with half of one.
func crowded(t *testing.T, pages int, half bool) *disk {
	d := newDisk(t, pages)
	for id := 2; id < pages; id++ {
		key := fmt.Sprintf("%04d", id)
		l := big(key+"a", key+"b", key+"c", key+"d", key+"e")
		if half {
			l = l[:2]
		}
		d.leaf(id, 1, l)
	}
	return d.synced()
}

func TestP22_4_Full(t *testing.T) {
	for _, pages := range []int{4, 5, 6, 30} {
		d := crowded(t, pages, false)
		before := imageOf(d.Device)
		if n, err := fsck.Repair(d.Device); n != 0 || err != api.ErrFull || !imageOf(d.Device).same(before) {
			t.Errorf("%d full pages: %d, %v; want ErrFull, and nothing done", pages, n, err)
		}
		if err := wantRepaired(t, "full pages", d.Device); err != api.ErrFull {
			t.Errorf("%d full pages: %v", pages, err)
		}
		d.write(16, junk()).synced() // a page less has room for the root
		if err := wantRepaired(t, "a page less", d.Device); err != nil {
			t.Errorf("%d pages, but one: %v", pages, err)
		}
		if err := wantRepaired(t, "half full pages", crowded(t, pages, true).Device); err != nil {
			t.Errorf("%d half full pages: %v", pages, err)
		}
	}
}

// fatesOf is some ways in which so many pending writes may end: all lost, all there, and any of these or torn.
func fatesOf(r *rand.Rand, pending int) [][]api.Fate {
	all := [][]api.Fate{nil}
	for kind := range 3 {
		var l []api.Fate
		for i := range pending {
			f := api.Fate{Index: i, Kind: api.FateKeep, Cut: r.Intn(513), Junk: "junk"}
			if kind > 0 {
				f.Kind = 1 + r.Intn(3)
			}
			l = append(l, f)
		}
		all = append(all, l)
	}
	return all
}

// Wherever the power fails amid a Repair, it tells ErrDead, and the device is as a Bulk of these pairs would leave it; what is left can be looked through and mended.
func TestP22_4_ThePowerFails(t *testing.T) {
	r := rand.New(rand.NewSource(224))
	for what, was := range spoilt(t) {
		was.synced()
		for k := 0; ; k++ {
			done := false
			for i, fates := range fatesOf(r, 200) {
				name := fmt.Sprintf("%s, operation %d, fates %d", what, k, i)
				d, other := clone(t, was.Device), clone(t, was.Device)
				d.Arm(k, fates)
				other.Arm(k, fates)
				n, err := fsck.Repair(d)
				want, wantErr := repairByHand(other)
				if n != want || err != wantErr || !imageOf(d).same(imageOf(other)) {
					t.Fatalf("%s: Repair: %d, %v; by hand: %d, %v; or the devices differ", name, n, err, want, wantErr)
				}
				done = err == nil
				if (n != 0 || err != api.ErrDead || !d.Dead()) && !done {
					t.Fatalf("%s: %d, %v", name, n, err)
				}
				d.Revive()
				other, err = device.Open(d.Size(), d.Durable())
				must(t, err)
				wantAsPlain(t, name, other)
				if err := wantRepaired(t, name, other); err != nil {
					t.Errorf("%s: once more: %v", name, err)
				}
			}
			if done {
				break
			}
		}
	}
}
