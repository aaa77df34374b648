package backup_test

import (
	"math/rand"
	"slices"
	"testing"

	"copse/api"
	"copse/backup"
	"copse/device"
	"copse/dump"
	"copse/feed"
	"copse/kv"
	"copse/walk"
)

// contentOf is the pairs on a device, but a replica's own.
func contentOf(t *testing.T, d *device.Device) []api.Pair {
	t.Helper()
	l, err := walk.Content(d)
	must(t, err)
	return slices.DeleteFunc(l, func(p api.Pair) bool { return p.Key == "\xfffeed" })
}

// follower is a replica in a store of its own.
func follower(t *testing.T, d *device.Device) *feed.Replica {
	t.Helper()
	s := kv.New(d)
	must(t, s.Open())
	r, err := feed.New(s)
	must(t, err)
	return r
}

// copies are all the ways by which there is another store with the same pairs.
func copies(t *testing.T, d *device.Device, merged api.Archive) map[string]*device.Device {
	t.Helper()
	lines, err := dump.Dump(d)
	must(t, err)
	l, err := dump.Read(lines)
	must(t, err)
	all := map[string]*device.Device{}
	for what, copyTo := range map[string]func(to *device.Device) error{
		"loaded":             func(to *device.Device) error { return dump.Load(to, lines) },
		"a bulk":             func(to *device.Device) error { return dump.Bulk(to, l) },
		"restored":           func(to *device.Device) error { return backup.Restore(to, take(t, d, 0)) },
		"restored of merged": func(to *device.Device) error { return backup.Restore(to, merged) },
		"compacted":          func(to *device.Device) error { return backup.Compact(d, to) },
		"compacted onto itself": func(to *device.Device) error {
			must(t, backup.Restore(to, merged))
			return backup.Compact(to, to)
		},
	} {
		to := device.New(d.Size())
		must(t, copyTo(to))
		all[what] = to
	}
	return all
}

// All copies of a store hold the map that it holds.
func TestW11_Copies(t *testing.T) {
	t.Parallel()
	for seed := range int64(3) {
		h := newHistory(t, seed, 8*200, []int{50, 300, 700}[seed])
		source, err := feed.Follow(h.d)
		must(t, err)
		_, followed := opened(t, 8*250)
		replica, merged := follower(t, followed), take(t, h.d, 0)
		for i := range 10 {
			if i == 6 {
				h.empty()
			} else {
				h.transact([]int{60, 3, 20}[i%3], 150)
			}
			want := inOrder(h.book)
			b, is, err := source.Batch()
			must(t, err)
			if is {
				must(t, replica.Take(b))
			}
			merged = merge(t, merged, take(t, h.d, merged.Meta.Txid))
			all := copies(t, h.d, merged)
			all["the store"], all["a follower"] = h.d, followed
			for what, d := range all {
				if got := contentOf(t, d); !slices.Equal(got, want) {
					t.Errorf("seed %d, step %d: %s: %s, want %s", seed, i, what, showPairs(got), showPairs(want))
				}
			}
		}
	}
}

// A follower holds a map that its source held, whatever was lost, came twice, was damaged, or failed; and all of its copies hold the same.
func TestW11_AFollowerBehindFailures(t *testing.T) {
	r, failed, refused := rand.New(rand.NewSource(11)), 0, 0
	h := newHistory(t, 11, 8*150, 300)
	source, err := feed.Follow(h.d)
	must(t, err)
	_, d := opened(t, 8*200)
	replica, held := follower(t, d), map[uint64][]api.Pair{0: nil}
	var sent []api.Batch
	for range 60 {
		h.transact(1+r.Intn(12), 80)
		b, _, err := source.Batch()
		must(t, err)
		sent, held[b.To] = append(sent, b), inOrder(h.book)
		for range 1 + r.Intn(4) {
			b := sent[min(int(replica.At()), len(sent)-1)] // the one that it waits for, if there is one
			switch r.Intn(6) {
			case 0:
				b = sent[r.Intn(len(sent))]
			case 1:
				b.Sum++
			case 2, 3:
				d.Arm(r.Intn(6), fatesOf(r, 90)[r.Intn(14)])
			}
			if replica.Take(b) != nil {
				refused++
			}
			if d.Dead() {
				failed++
			}
			d = clone(t, d)
			replica = follower(t, d)
			if got := contentOf(t, d); !slices.Equal(got, held[replica.At()]) {
				t.Fatalf("at transaction %d: %s, want %s", replica.At(), showPairs(got), showPairs(held[replica.At()]))
			}
		}
	}
	for _, b := range sent {
		must(t, replica.Take(b))
	}
	for what, c := range copies(t, d, take(t, d, 0)) {
		if got := contentOf(t, c); !slices.Equal(got, inOrder(h.book)) {
			t.Errorf("at the end, %s: %s", what, showPairs(got))
		}
	}
	if failed < 10 || refused < 20 {
		t.Errorf("%d failures, %d refusals", failed, refused)
	}
}
