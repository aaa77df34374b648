package backup_test

import (
	"fmt"
	"math/rand"
	"slices"
	"testing"

	"copse/api"
	"copse/backup"
	"copse/device"
	"copse/dump"
	"copse/walk"
)

// wantCompacted wants a Compact to do what a Bulk of the one's content does to a device like the other, and nothing to the one; it answers the error.
func wantCompacted(t *testing.T, what string, from, to *device.Device, arm func(d *device.Device)) error {
	t.Helper()
	other := clone(t, to)
	if to.Dead() {
		other.Crash(nil)
	}
	l, wantErr := walk.Content(from)
	source, before := imageOf(from), imageOf(to)
	arm(to)
	arm(other)
	if wantErr == nil {
		wantErr = dump.Bulk(other, l)
	}
	err := backup.Compact(from, to)
	if err != wantErr {
		t.Errorf("%s: %v, want %v", what, err, wantErr)
	}
	after := imageOf(to)
	after.written, after.syncs = after.written-before.written, after.syncs-before.syncs
	if !after.same(imageOf(other)) {
		t.Errorf("%s, %v: the device is not as a Bulk leaves it", what, err)
	}
	if from != to && !imageOf(from).same(source) {
		t.Errorf("%s, %v: something was done to the source", what, err)
	}
	if err == nil {
		wantCompact(t, what, to, l)
	}
	return err
}

// wantCompact wants a store of just these pairs, by transaction 1, in the pages from 2 on.
func wantCompact(t *testing.T, what string, d *device.Device, l []api.Pair) {
	t.Helper()
	s, err := walk.Survey(d)
	got, errContent := walk.Content(d)
	if err != nil || errContent != nil || s.Meta.Txid != 1 || !slices.Equal(got, l) {
		t.Errorf("%s: %v, %s", what, err, showPairs(got))
	}
	for i, id := range s.Pages {
		if id != 2+i {
			t.Errorf("%s: pages %v", what, s.Pages)
			break
		}
	}
}

func noArm(*device.Device) {}

func TestP23_5_ErrorsOfContent(t *testing.T) {
	zeros, small, spoilt, dead := device.New(80), device.New(31), example(t), example(t)
	must(t, spoilt.Write(24, make([]byte, 512)))
	must(t, spoilt.Sync())
	dead.Crash(nil)
	smallDead := device.New(31)
	smallDead.Crash(nil)
	full, off := crowdedStore(t), example(t)
	off.Crash(nil)
	for what, c := range map[string]struct {
		from *device.Device
		want error
	}{"zeros": {zeros, api.ErrCorrupt}, "too small": {small, api.ErrCorrupt}, "too small and dead": {smallDead, api.ErrCorrupt}, "spoilt": {spoilt, api.ErrCorrupt}, "dead": {dead, api.ErrDead}} {
		for name, to := range map[string]*device.Device{"zeros": device.New(80), "a store": example(t), "a great one": clone(t, full), "no pages": device.New(0), "three pages": device.New(31), "a dead one": clone(t, off), "itself": c.from} {
			if name == "a dead one" {
				to.Crash(nil)
			}
			before := imageOf(to)
			if err := wantCompacted(t, what+" to "+name, c.from, to, noArm); err != c.want {
				t.Errorf("%s to %s: %v, want %v", what, name, err, c.want)
			}
			if !imageOf(to).same(before) {
				t.Errorf("%s to %s: something was done", what, name)
			}
		}
	}
}

// crowdedStore is a store of many pages whose leaves are half empty.
func crowdedStore(t *testing.T) *device.Device {
	t.Helper()
	h := newHistory(t, 235, 8*150, 700)
	h.transact(300, 300)
	h.transact(200, 300)
	return h.d
}

func TestP23_5_ToAnother(t *testing.T) {
	t.Parallel()
	for what, from := range stores(t) {
		for name, to := range targets(t, 260) {
			if err := wantCompacted(t, what+" to "+name, from, to, noArm); err != nil {
				t.Errorf("%s to %s: %v", what, name, err)
			}
		}
	}
}

func TestP23_5_ToItself(t *testing.T) {
	all := stores(t)
	all["half empty"] = crowdedStore(t)
	for what, d := range all {
		a := take(t, d, 0)
		for i := range 2 {
			if err := wantCompacted(t, fmt.Sprint(what, ", time ", i), d, d, noArm); err != nil {
				t.Errorf("%s: %v", what, err)
			}
		}
		if b := take(t, d, 0); len(b.Pages) > len(a.Pages) {
			t.Errorf("%s: %d pages, ahead of it %d", what, len(b.Pages), len(a.Pages))
		}
	}
}

// To a device that is too small nothing is done; of a page more it is large enough.
func TestP23_5_TooSmall(t *testing.T) {
	all := stores(t)
	all["half empty"] = crowdedStore(t)
	for what, from := range all {
		roomy := device.New(8 * 400)
		must(t, backup.Compact(from, roomy))
		s, err := walk.Survey(roomy)
		must(t, err)
		least := max(4, 2+len(s.Pages))
		for _, n := range []int{0, 8, 31, 8*least - 1, 8 * least, 8*least + 7, 8 * (least + 1)} {
			want := error(nil)
			switch {
			case n < 32:
				want = api.ErrArg
			case n < 8*least:
				want = api.ErrFull
			}
			to := device.New(n)
			for i := range min(n, 40) {
				must(t, to.Write(i, []byte(fmt.Sprintf("%0512d", i))))
			}
			must(t, to.Sync())
			before := imageOf(to)
			if err := wantCompacted(t, fmt.Sprint(what, " to ", n), from, to, noArm); err != want {
				t.Errorf("%s to %d sectors, of %d pages: %v, want %v", what, n, least, err, want)
			}
			if want != nil && !imageOf(to).same(before) {
				t.Errorf("%s to %d sectors: something was done", what, n)
			}
		}
	}
}

// The power of the device to which it goes fails at every operation.
func TestP23_5_ThePowerFails(t *testing.T) {
	t.Parallel()
	r := rand.New(rand.NewSource(2351))
	many := storeOf(t, 8*20, 3, alike(15, 690))
	for what, from := range map[string]*device.Device{"empty": storeOf(t, 80, 0, nil), "a leaf": example(t), "many": many} {
		for name, was := range map[string]*device.Device{"zeros": device.New(80), "a store": example(t), "itself": from} {
			for k, done := 0, false; !done; k++ {
				for i, fates := range fatesOf(r, 8*6+1) {
					to := clone(t, was)
					source := from
					if name == "itself" {
						source = to
					}
					err := wantCompacted(t, fmt.Sprintf("%s to %s, operation %d, fates %d", what, name, k, i), source, to, func(d *device.Device) { d.Arm(k, fates) })
					if done = err == nil; err != nil && err != api.ErrDead {
						t.Fatalf("%s to %s: %v", what, name, err)
					}
				}
			}
		}
		dead := device.New(80)
		dead.Crash(nil)
		if err := wantCompacted(t, what+" to a dead one", from, dead, noArm); err != api.ErrDead {
			t.Errorf("%s to a dead one: %v", what, err)
		}
	}
}
