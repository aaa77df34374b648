package backup_test

import (
	"fmt"
	"math/rand"
	"slices"
	"testing"

	"copse/api"
	"copse/backup"
)

// mayHold is what a device may hold behind a failure in the operation k of a Restore of n parcels: the first two wipe the slot that does not count, the next two the other one; then come the parcels, a sync, the meta, a sync.
func mayHold(k, n int, old, restored outcome) []outcome {
	none := outcome{survey: fmt.Sprint(api.Survey{}), err: api.ErrCorrupt}
	switch {
	case k < 2:
		return []outcome{old}
	case k == 2:
		return []outcome{old, none}
	case k < 5+n:
		return []outcome{none}
	case k == 5+n:
		return []outcome{none, restored}
	}
	return []outcome{restored}
}

// kind tells which of the three an outcome is.
func kind(o, old, restored outcome) string {
	switch {
	case o.err == api.ErrCorrupt:
		return "none"
	case o.same(restored):
		return "restored"
	case o.same(old):
		return "old"
	}
	return "another one"
}

// The power fails at every operation of a Restore: there is none, the old store, or the archive's.
func TestP23_8_ThePowerFailsAtEveryOperation(t *testing.T) {
	t.Parallel()
	r, seen := rand.New(rand.NewSource(238)), map[string]int{}
	for to, was := range targets(t, 10) {
		old := outcomeOf(t, was)
		for what, a := range archives(t, 10) {
			n, restored := len(a.Parcels), outcomeOf(t, trialOf(t, was.Size(), a))
			for k := range 7 + n {
				for i, fates := range fatesOf(r, 8*n+1) {
					name := fmt.Sprintf("%s, archive %s, operation %d, fates %d", to, what, k, i)
					d := clone(t, was)
					d.Arm(k, fates)
					if err := backup.Restore(d, a); err != api.ErrDead {
						t.Fatalf("%s: %v", name, err)
					}
					d.Revive()
					got, may := outcomeOf(t, d), mayHold(k, n, old, restored)
					if !slices.ContainsFunc(may, got.same) {
						t.Fatalf("%s: %s, %v", name, got.survey, got.err)
					}
					seen[fmt.Sprint(min(k, 4), max(0, k-4-n), " ", kind(got, old, restored))]++
					if i%4 == 0 { // whatever was left, it can be restored to
						if err := wantRestored(t, name+", once more", d, a); err != nil {
							t.Fatalf("%s, once more: %v", name, err)
						}
					}
				}
			}
		}
	}
	for _, what := range []string{"0 0 old", "1 0 old", "2 0 old", "2 0 none", "3 0 none", "4 0 none", "4 1 none", "4 1 restored", "4 2 restored"} {
		if seen[what] < 50 {
			t.Errorf("only %d times: operation, and that behind the pages: %s; %v", seen[what], what, seen)
		}
	}
}

// The same with real stores of several levels over one another, and failures that follow one another.
func TestP23_8_OneFailureBehindTheOther(t *testing.T) {
	t.Parallel()
	r, seen := rand.New(rand.NewSource(2381)), map[string]int{}
	h := newHistory(t, 2381, 8*120, 600)
	var all []api.Archive
	for range 8 {
		h.transact(40, 200)
		all = append(all, take(t, h.d, 0))
	}
	d, old := clone(t, h.d), outcomeOf(t, h.d)
	for range 250 {
		a := all[r.Intn(len(all))]
		restored := outcomeOf(t, trialOf(t, d.Size(), a))
		n := len(a.Parcels)
		k := []int{r.Intn(4), 4 + r.Intn(n), 4 + n, 5 + n, 6 + n, 7 + n}[r.Intn(6)]
		fates := fatesOf(r, 8*n)
		d.Arm(k, fates[r.Intn(len(fates))])
		if err := backup.Restore(d, a); (err == nil) != (k == 7+n) || err != nil && err != api.ErrDead {
			t.Fatalf("operation %d of %d: %v", k, 7+n, err)
		}
		d.Revive()
		got := outcomeOf(t, d)
		may := mayHold(k, n, old, restored)
		if !slices.ContainsFunc(may, got.same) {
			t.Fatalf("operation %d of %d: %s, %v", k, 7+n, got.survey, got.err)
		}
		seen[kind(got, old, restored)]++
		if d, old = clone(t, d), got; r.Intn(3) == 0 {
			d, old = clone(t, h.d), outcomeOf(t, h.d)
		}
	}
	if seen["old"] < 10 || seen["none"] < 50 || seen["restored"] < 50 {
		t.Errorf("%v", seen)
	}
}

// An older store that the idle slot still leads to never comes up again.
func TestP23_8_NoOlderStore(t *testing.T) {
	t.Parallel()
	r, older := rand.New(rand.NewSource(2382)), 0
	for _, l := range [][]api.Pair{pairs("a", "1"), pairs("a", "1", "b", "2"), pairs("a", "1", "b", "2", "c", "3")} {
		was := storeOf(t, 80, len(l), l)
		old := outcomeOf(t, was)
		for _, a := range archives(t, 10) {
			restored := outcomeOf(t, trialOf(t, 80, a))
			for k := range 7 + len(a.Parcels) {
				for _, fates := range fatesOf(r, 8*len(a.Parcels)+1) {
					d := clone(t, was)
					d.Arm(k, fates)
					if err := backup.Restore(d, a); err != api.ErrDead {
						t.Fatal(err)
					}
					d.Revive()
					if got := outcomeOf(t, d); kind(got, old, restored) == "another one" {
						t.Fatalf("%d transactions, operation %d: %s", len(l), k, got.survey)
					}
				}
			}
		}
		bare := clone(t, was)
		must(t, bare.Write(8*(len(l)%2), make([]byte, 512)))
		if outcomeOf(t, bare).err == nil {
			older++
		}
	}
	if older != 3 {
		t.Errorf("%d of the stores have an older one beneath", older)
	}
}
