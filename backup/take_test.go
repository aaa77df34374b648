package backup_test

import (
	"fmt"
	"math"
	"testing"

	"copse/api"
	"copse/backup"
	"copse/device"
	"copse/sheet"
	"copse/walk"
)

// wantTaken wants of Take what the plain form has, and that nothing was done to the device: an arm that waits for an operation has not gone off.
func wantTaken(t *testing.T, what string, d *device.Device, since uint64) (api.Archive, error) {
	t.Helper()
	want, wantErr := plainTake(d, since)
	before := imageOf(d)
	got, err := backup.Take(d, since)
	if err != wantErr || !same(got, want) || err != nil && !zero(got) {
		t.Errorf("%s: Take since %d: %s, %v; want %s, %v", what, since, show(got), err, show(want), wantErr)
	}
	if !imageOf(d).same(before) {
		t.Errorf("%s: Take since %d: something was written or synced", what, since)
	}
	if err == nil && backup.Check(got) != nil {
		t.Errorf("%s: Take since %d: not sound", what, since)
	}
	return got, err
}

// wantNotTaken wants an error of Take, whatever since is.
func wantNotTaken(t *testing.T, what string, d *device.Device, wantErr error) {
	t.Helper()
	for _, since := range []uint64{0, 1, 2, 1000, math.MaxUint64} {
		if _, err := wantTaken(t, what, d, since); err != wantErr {
			t.Errorf("%s: Take since %d: %v, want %v", what, since, err, wantErr)
		}
	}
}

func TestP23_1_ErrorsOfSurvey(t *testing.T) {
	t.Parallel()
	for _, n := range []int{0, 1, 8, 31} {
		d := device.New(n)
		wantNotTaken(t, "too small", d, api.ErrCorrupt)
		d.Crash(nil)
		wantNotTaken(t, "too small, dead", d, api.ErrCorrupt)
	}
	for _, n := range []int{32, 80, api.MaxSectors} {
		d := device.New(n)
		wantNotTaken(t, "zeros", d, api.ErrCorrupt)
		d.Crash(nil)
		wantNotTaken(t, "zeros, dead", d, api.ErrDead)
	}
	for what, d := range stores(t) {
		s, err := walk.Survey(d)
		must(t, err)
		dead := clone(t, d)
		dead.Crash(nil)
		wantNotTaken(t, what+", dead", dead, api.ErrDead)
		for i, id := range s.Pages {
			if i > 5 && i < len(s.Pages)-2 {
				continue
			}
			spoilt := clone(t, d)
			must(t, spoilt.Write(8*id, make([]byte, 512)))
			wantNotTaken(t, fmt.Sprint(what, ", no page ", id), spoilt, api.ErrCorrupt)
		}
		must(t, d.Write(0, make([]byte, 512)))
		must(t, d.Sync())
		must(t, d.Write(8, make([]byte, 512)))
		wantNotTaken(t, what+", no meta", d, api.ErrCorrupt)
	}
}

// Since at the meta's transaction, and one above it.
func TestP23_1_Since(t *testing.T) {
	for what, d := range stores(t) {
		s, err := walk.Survey(d)
		must(t, err)
		txid := s.Meta.Txid
		a, err := wantTaken(t, what, d, txid)
		if err != nil || len(a.Parcels) != 0 || txid == 0 && len(a.Pages) != 0 || len(a.Pages) != len(s.Pages) {
			t.Errorf("%s: at its transaction: %s, %v", what, show(a), err)
		}
		for _, since := range []uint64{txid + 1, txid + 2, 1 << 32, 1 << 63, math.MaxUint64} {
			if _, err := wantTaken(t, what, d, since); err != api.ErrArg {
				t.Errorf("%s: Take since %d: %v", what, since, err)
			}
		}
	}
	for _, txid := range []uint64{math.MaxUint64 - 1, math.MaxUint64} {
		d := trialOf(t, 80, wholeOf(10, 5, txid, anyParcel(t, 5, txid)))
		for _, since := range []uint64{0, 1, math.MaxUint64 - 2, math.MaxUint64 - 1, math.MaxUint64} {
			a, err := wantTaken(t, "at the last transactions", d, since)
			if since <= txid != (err == nil) || since < txid != (len(a.Parcels) == 1) {
				t.Errorf("Take since %d at %d: %s, %v", since, txid, show(a), err)
			}
		}
	}
}

func TestP23_1_AllStores(t *testing.T) {
	for what, d := range stores(t) {
		a, err := wantTaken(t, what, d, 0)
		if err != nil || len(a.Parcels) != len(a.Pages) || a.Since != 0 {
			t.Errorf("%s: %s, %v", what, show(a), err)
		}
	}
}

// Of one store, behind each of its transactions, since every one.
func TestP23_1_SinceEveryTransaction(t *testing.T) {
	t.Parallel()
	depths, some := map[int]int{}, 0
	for seed := range int64(3) {
		h := newHistory(t, seed, 8*400, []int{60, 300, 700}[seed])
		for i := range 18 {
			switch {
			case i == 0 || i == 9:
				h.transact(600, 700)
			case i == 8:
				h.empty()
			case i > 0:
				h.transact([]int{1, 3, 40}[i%3], 700)
			}
			s, err := walk.Survey(h.d)
			must(t, err)
			depths[s.Depth]++
			least := len(s.Pages)
			for since := range s.Meta.Txid + 2 {
				a, _ := wantTaken(t, fmt.Sprintf("seed %d, transaction %d", seed, s.Meta.Txid), h.d, since)
				if len(a.Parcels) > least {
					t.Errorf("since %d: %d parcels, ahead of it %d", since, len(a.Parcels), least)
				}
				if least = len(a.Parcels); least > 0 && least < len(s.Pages) {
					some++
				}
			}
		}
	}
	if depths[0] < 3 || depths[2] < 5 || depths[3] < 5 || some < 100 {
		t.Errorf("stores by their depth: %v; archives of some pages: %d", depths, some)
	}
}

// A page counts by its own transaction, whatever those of the pages beside and over it are.
func TestP23_1_EachPageByItself(t *testing.T) {
	l := []api.Parcel{
		leafParcel(t, 3, 9, big("a", "b", "c")), leafParcel(t, 4, 2, big("m", "n", "o")),
		branchParcel(t, 5, 4, []int{3, 4, 7}, "m", "t"),
		leafParcel(t, 7, 1, big("t", "u", "v")),
	}
	d := trialOf(t, 80, wholeOf(10, 5, 12, l...))
	for since, ids := range [][]int{{3, 4, 5, 7}, {3, 4, 5}, {3, 5}, {3, 5}, {3}, {3}, {3}, {3}, {3}, nil, nil, nil, nil} {
		a, err := wantTaken(t, "pages of many transactions", d, uint64(since))
		if err != nil || len(a.Pages) != 4 || len(a.Parcels) != len(ids) {
			t.Fatalf("since %d: %s, %v", since, show(a), err)
		}
		for i, id := range ids {
			if a.Parcels[i].ID != id {
				t.Errorf("since %d: %s, want %v", since, show(a), ids)
			}
		}
	}
}

// What is pending counts as what stands there; pages that the tree does not reach count for nothing.
func TestP23_1_WhatStandsThere(t *testing.T) {
	d := example(t)
	want := take(t, d, 0)
	must(t, d.Write(8*5, []byte(anyParcel(t, 5, 2).Data)))
	must(t, d.Write(8*9, make([]byte, 4096)))
	must(t, d.Write(1, make([]byte, 3584)))
	must(t, d.Write(8, make([]byte, 512)))
	if a, err := wantTaken(t, "junk beside", d, 0); err != nil || !same(a, want) {
		t.Errorf("with junk beside: %s, %v", show(a), err)
	}
	other := leafParcel(t, 3, 1, pairs("c", "3"))
	must(t, d.Write(24, []byte(other.Data)))
	a, err := wantTaken(t, "a pending page", d, 0)
	if err != nil || len(a.Parcels) != 1 || a.Parcels[0] != other {
		t.Errorf("with a pending page: %s, %v", show(a), err)
	}
	if a, err := wantTaken(t, "a pending page", d, 1); err != nil || len(a.Parcels) != 0 {
		t.Errorf("with a pending page: %s, %v", show(a), err)
	}
}

// Take is no operation of the device: an arm does not go off, and is not lowered.
func TestP23_1_Arms(t *testing.T) {
	for what, d := range stores(t) {
		d.Arm(0, nil)
		_, err := wantTaken(t, what, d, 0)
		must(t, err)
		if d.Dead() || d.Sync() != api.ErrDead {
			t.Errorf("%s: the arm has gone off", what)
		}
	}
}

// The greatest device costs no more than what lies on it.
func TestP23_1_TheGreatestDevice(t *testing.T) {
	s, err := sheet.Load(example(t), 3)
	must(t, err)
	s.ID = api.MaxPages - 1
	d := trialOf(t, api.MaxSectors, wholeOf(api.MaxPages, s.ID, 2, parcel(t, s)))
	a, err := wantTaken(t, "the greatest device", d, 0)
	if err != nil || len(a.Parcels) != 1 || a.Parcels[0].ID != api.MaxPages-1 {
		t.Errorf("%s, %v", show(a), err)
	}
	to := device.New(api.MaxSectors)
	must(t, backup.Restore(to, a))
	if !outcomeOf(t, to).same(outcomeOf(t, d)) {
		t.Error("what was restored is another store")
	}
}
