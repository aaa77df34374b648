package backup_test

import (
	"fmt"
	"maps"
	"math/rand"
	"testing"

	"copse/api"
	"copse/backup"
	"copse/kv"
)

// Behind a Restore the device holds what was there when the archive was taken, and a backup of it is the same archive.
func TestP23_6_Back(t *testing.T) {
	t.Parallel()
	for what, d := range stores(t) {
		then, a := outcomeOf(t, d), take(t, d, 0)
		pages := d.Size() / 8
		for name, to := range targets(t, pages) {
			must(t, backup.Restore(to, a))
			if len(to.Pending()) != 0 {
				t.Errorf("%s to %s: %d writes are pending", what, name, len(to.Pending()))
			}
			to.Crash(nil)
			to.Revive()
			if got := outcomeOf(t, to); !got.same(then) {
				t.Errorf("%s to %s: %s, %v; want %s", what, name, got.survey, got.err, then.survey)
			}
			if b := take(t, to, 0); !same(b, a) {
				t.Errorf("%s to %s: a backup of it is %s, want %s", what, name, show(b), show(a))
			}
			if b, want := take(t, to, a.Meta.Txid/2), take(t, d, a.Meta.Txid/2); !same(b, want) {
				t.Errorf("%s to %s: a later backup of it is %s, want %s", what, name, show(b), show(want))
			}
		}
		must(t, backup.Restore(d, a))
		if got := outcomeOf(t, d); !got.same(then) {
			t.Errorf("%s to itself: %s, %v", what, got.survey, got.err)
		}
	}
}

// What becomes of the store behind a Take is not in the archive: each brings its own time back.
func TestP23_6_EachTime(t *testing.T) {
	h := newHistory(t, 236, 8*150, 700)
	var all []api.Archive
	var then []outcome
	for i := range 12 {
		if i == 5 {
			h.empty()
		} else {
			h.transact(40, 200)
		}
		all, then = append(all, take(t, h.d, 0)), append(then, outcomeOf(t, h.d))
	}
	r := rand.New(rand.NewSource(2361))
	for range 60 {
		i := r.Intn(len(all))
		must(t, backup.Restore(h.d, all[i]))
		if got := outcomeOf(t, h.d); !got.same(then[i]) || !same(take(t, h.d, 0), all[i]) {
			t.Errorf("transaction %d: %s, %v", i+1, got.survey, got.err)
		}
	}
}

// A store that was restored goes on as the one of which the archive was taken.
func TestP23_6_GoesOn(t *testing.T) {
	for seed := range int64(4) {
		h := newHistory(t, seed, 8*150, 500)
		for range 5 {
			h.transact(30, 150)
		}
		d := targets(t, 150)[[]string{"zeros", "slot 1 counts, slot 0 may", "slot 0 counts, slot 1 may", "none counts: junk"}[seed]]
		must(t, backup.Restore(d, take(t, h.d, 0)))
		other := *h
		other.d, other.s, other.book, other.r = d, kv.New(d), maps.Clone(h.book), rand.New(rand.NewSource(seed))
		h.r = rand.New(rand.NewSource(seed))
		must(t, other.s.Open())
		for i := range 8 {
			h.transact(20, 150)
			other.transact(20, 150)
			if !same(take(t, h.d, 0), take(t, d, 0)) || !outcomeOf(t, h.d).same(outcomeOf(t, d)) {
				t.Fatalf("seed %d: they differ behind %d transactions", seed, i+1)
			}
		}
	}
}

// Archives of one store, each since the transaction of the one ahead of it or since an earlier one: merged they are, step by step, the whole one that would have been taken then. A gap is none of these.
func TestP23_7_StepByStep(t *testing.T) {
	t.Parallel()
	few, earlier, gaps := 0, 0, 0
	for seed := range int64(5) {
		h := newHistory(t, 237+seed, 8*[]int{60, 200}[seed%2], 600)
		r := rand.New(rand.NewSource(seed))
		merged, all := take(t, h.d, 0), []api.Archive{take(t, h.d, 0)}
		for i := range 25 {
			for range 1 + r.Intn(3) {
				switch {
				case i == 14:
					h.empty()
				case i%14 == 1:
					h.transact(80, 100)
				case i%4 == 3:
					h.failing(1+r.Intn(3), 100)
				default:
					h.transact([]int{0, 1, 2, 10}[r.Intn(4)], 100)
				}
			}
			want := take(t, h.d, 0)
			since := merged.Meta.Txid
			if r.Intn(2) == 0 {
				since = uint64(r.Intn(int(since) + 1))
				earlier++
			}
			part := take(t, h.d, since)
			merged = merge(t, merged, part)
			if !same(merged, want) {
				t.Fatalf("seed %d, step %d, since %d: %s, want %s", seed, i, since, show(merged), show(want))
			}
			if len(part.Parcels) < len(part.Pages) {
				few++
			}
			for _, a := range all { // and over any that was taken before
				err := wantMerged(t, fmt.Sprintf("seed %d, step %d", seed, i), a, part)
				if gap := since > a.Meta.Txid; gap != (err == api.ErrShort) || gap == (err == nil) {
					t.Errorf("seed %d, step %d: over transaction %d since %d: %v", seed, i, a.Meta.Txid, since, err)
				} else if gap {
					gaps++
				} else if !same(merge(t, a, part), want) {
					t.Errorf("seed %d, step %d: over transaction %d since %d: another one", seed, i, a.Meta.Txid, since)
				}
			}
			all = append(all, want)
		}
	}
	if few < 30 || earlier < 30 || gaps < 200 {
		t.Errorf("%d archives of some pages, %d since earlier transactions, %d gaps", few, earlier, gaps)
	}
}

// All of a store's archives, merged at the end only: first the whole one with the next, and so on; and at each step restored.
func TestP23_7_AllAtTheEnd(t *testing.T) {
	h := newHistory(t, 2371, 8*150, 700)
	h.transact(100, 200)
	whole, since := take(t, h.d, 0), h.s.Txid()
	var parts []api.Archive
	var then []outcome
	for i := range 20 {
		h.transact(1+i%7*5, 200)
		parts, then = append(parts, take(t, h.d, since)), append(then, outcomeOf(t, h.d))
		since = h.s.Txid()
	}
	d := clone(t, h.d)
	for i, part := range parts {
		if _, err := backup.Merge(whole, parts[min(i+1, len(parts)-1)]); i+1 < len(parts) && err != api.ErrShort {
			t.Errorf("a gap ahead of step %d: %v", i+1, err)
		}
		whole = merge(t, whole, part)
		must(t, backup.Restore(d, whole))
		if got := outcomeOf(t, d); !got.same(then[i]) {
			t.Errorf("step %d: %s, %v; want %s", i, got.survey, got.err, then[i].survey)
		}
	}
}
