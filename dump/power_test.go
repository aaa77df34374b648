package dump_test

import (
	"fmt"
	"math/rand"
	"slices"
	"testing"

	"copse/api"
	"copse/device"
	"copse/dump"
	"copse/walk"
)

// fatesOf is some ways in which so many pending writes may end: all lost, all there, all torn, each in its own way.
func fatesOf(r *rand.Rand, pending int) [][]api.Fate {
	var keep, tear []api.Fate
	for i := range pending {
		keep = append(keep, api.Fate{Index: i, Kind: api.FateKeep})
		tear = append(tear, api.Fate{Index: i, Kind: api.FateTear, Cut: r.Intn(513), Junk: "junk"})
	}
	all := [][]api.Fate{nil, keep, tear}
	for _, cut := range []int{0, 8, 12, 16, 24, 28, 511, 512} {
		all = append(all, []api.Fate{{Index: max(0, pending-1), Kind: api.FateTear, Cut: cut}})
	}
	for range 4 {
		var l []api.Fate
		for i := range pending {
			l = append(l, api.Fate{Index: i, Kind: 1 + r.Intn(3), Cut: r.Intn(513), Junk: string(rune('a' + r.Intn(26)))})
		}
		r.Shuffle(len(l), func(i, j int) { l[i], l[j] = l[j], l[i] })
		all = append(all, l)
	}
	return all
}

// outcome is what a device may hold behind a failure: a store with a transaction and pairs, or none.
type outcome struct {
	none  bool
	txid  uint64
	pairs []api.Pair
}

func outcomeOf(t *testing.T, d *device.Device) outcome {
	t.Helper()
	s, err := walk.Survey(d)
	l, errContent := walk.Content(d)
	if err != errContent || err != nil && err != api.ErrCorrupt {
		t.Fatalf("Survey: %v, Content: %v", err, errContent)
	}
	return outcome{none: err != nil, txid: s.Meta.Txid, pairs: l}
}

func (o outcome) isOneOf(all ...outcome) bool {
	return slices.ContainsFunc(all, func(x outcome) bool {
		return o.none == x.none && o.txid == x.txid && slices.Equal(o.pairs, x.pairs)
	})
}

// mayHold is what a device may hold behind a failure in the operation k of a bulk of n pages: six of Format, a write for each page, a sync, the meta, a sync.
func mayHold(k, n int, old outcome, l []api.Pair) []outcome {
	empty, whole := outcome{}, outcome{txid: 1, pairs: l}
	switch {
	case k < 6:
		return []outcome{old, {none: true}, empty}
	case k < 6+n+1:
		return []outcome{empty}
	case k == 6+n+1:
		return []outcome{empty, whole}
	}
	return []outcome{whole}
}

func (o outcome) String() string {
	if o.none {
		return "none"
	}
	return fmt.Sprintf("transaction %d with %d pairs", o.txid, len(o.pairs))
}

// spoilt is a device on which something lies that is no store.
func spoilt(t *testing.T, pages int) *device.Device {
	t.Helper()
	d := storeOf(t, pages, 2, pairs("old", "1"))
	must(t, d.Write(0, slices.Repeat([]byte{7}, 512)))
	must(t, d.Write(17, slices.Repeat([]byte{7}, 512)))
	must(t, d.Sync())
	return d
}

func TestP21_5_ThePowerFails(t *testing.T) {
	r := rand.New(rand.NewSource(215))
	olds := map[string]*device.Device{"zeros": device.New(8 * 40), "an empty store": storeOf(t, 40, 0, nil), "transaction 1": storeOf(t, 40, 1, alike(20, 700)), "transaction 2": storeOf(t, 40, 2, alike(30, 300)), "no store": spoilt(t, 40)}
	seen := map[string]int{}
	for what, was := range olds {
		old := outcomeOf(t, was)
		for _, l := range [][]api.Pair{nil, pairs("a", "1"), alike(6, 900), stand(slices.Repeat([]int{255}, 18)...)} {
			n := len(plainBulk(l).pages)
			for k := range 6 + n + 3 {
				for i, fates := range fatesOf(r, 8*n+1) {
					d := clone(t, was)
					d.Arm(k, fates)
					name := fmt.Sprintf("%d pairs over %s, operation %d, fates %d", len(l), what, k, i)
					if err := dump.Bulk(d, l); err != api.ErrDead || !d.Dead() {
						t.Fatalf("%s: %v", name, err)
					}
					d.Revive()
					got, may := outcomeOf(t, d), mayHold(k, n, old, l)
					if !got.isOneOf(may...) {
						t.Fatalf("%s: %v, want one of %v", name, got, may)
					}
					seen[fmt.Sprint(min(k, 6), max(0, k-6-n), got.none, got.txid)]++
					if i%5 == 0 { // whatever was left, it is made a store
						must(t, dump.Bulk(d, l))
						wantHeld(t, name, d, 1, l)
					}
				}
			}
		}
	}
	for _, kind := range []string{"6 0 false 0", "6 1 false 0", "6 1 false 1", "6 2 false 1", "3 0 true 0", "0 0 false 2", "5 0 false 0"} {
		if seen[kind] < 10 {
			t.Errorf("Format's operation, that behind the pages, whether there is no store, and its transaction: %s: %d times", kind, seen[kind])
		}
	}
}

// The writes come in the order that P21.4 says, wherever the power fails, and nothing is done behind an error.
func TestP21_4_ThePowerFails(t *testing.T) {
	r := rand.New(rand.NewSource(214))
	for what, was := range map[string]*device.Device{"zeros": device.New(8*40 + 3), "transaction 1": storeOf(t, 40, 1, alike(20, 700)), "transaction 2": storeOf(t, 40, 2, alike(30, 300)), "no store": spoilt(t, 40)} {
		for _, l := range [][]api.Pair{nil, pairs("a", "1"), alike(6, 900), stand(slices.Repeat([]int{255}, 18)...)} {
			n := len(plainBulk(l).pages)
			for k := range 6 + n + 4 {
				for i, fates := range fatesOf(r, 8*n+1) {
					got, want := clone(t, was), clone(t, was)
					got.Arm(k, fates)
					want.Arm(k, fates)
					err, wantErr := dump.Bulk(got, l), bulkByHand(want, l)
					name := fmt.Sprintf("%d pairs over %s, operation %d, fates %d", len(l), what, k, i)
					if err != wantErr || (err == nil) != (k == 6+n+3) {
						t.Fatalf("%s: %v, want %v", name, err, wantErr)
					}
					wantSame(t, name, imageOf(got), imageOf(want))
					if t.Failed() {
						return
					}
				}
			}
		}
	}
}
