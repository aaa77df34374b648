package diff_test

import (
	"fmt"
	"math/rand"
	"slices"
	"strings"
	"testing"

	"copse/api"
	"copse/device"
	"copse/diff"
	"copse/kv"
)

// opened is an open store with these pairs, and its device.
func opened(t *testing.T, pages int, l []api.Pair) (*kv.Store, *device.Device) {
	t.Helper()
	d := device.New(pages * api.PageSectors)
	s := kv.New(d)
	must(t, s.Format())
	must(t, s.Open())
	must(t, s.Begin())
	for _, p := range l {
		must(t, s.Put(p.Key, p.Value))
	}
	must(t, s.Commit())
	return s, d
}

// working is such a store in a transaction.
func working(t *testing.T, l ...string) *kv.Store {
	t.Helper()
	s, _ := opened(t, 64, pairs(l...))
	must(t, s.Begin())
	return s
}

// held is all pairs of a store.
func held(t *testing.T, s *kv.Store) []api.Pair {
	t.Helper()
	var all []api.Pair
	for from := ""; ; from = all[len(all)-1].Key + "\x00" {
		l, err := s.Scan(from, "", api.MaxScan)
		must(t, err)
		all = append(all, l...)
		if len(l) < api.MaxScan {
			return all
		}
	}
}

func wantHeld(t *testing.T, what string, s *kv.Store, want []api.Pair) {
	t.Helper()
	if l := held(t, s); !slices.Equal(l, want) {
		t.Errorf("%s: the store has %s, want %s", what, show(l), show(want))
	}
}

// stores is a store in each status, by the number of the status.
func stores(t *testing.T) []*kv.Store {
	t.Helper()
	var all []*kv.Store
	for range api.Dead + 1 {
		s, _ := opened(t, 8, pairs("a=1"))
		all = append(all, s)
	}
	must(t, all[api.Closed].Close())
	must(t, all[api.Working].Begin())
	must(t, all[api.Broken].Begin())
	for i := range 60 {
		must(t, all[api.Broken].Put(fmt.Sprint("k", i), strings.Repeat("v", 700)))
	}
	if err := all[api.Broken].Commit(); err != api.ErrFull {
		t.Fatal(err)
	}
	dying, d := opened(t, 8, pairs("a=1"))
	must(t, dying.Begin())
	d.Crash(nil)
	if _, _, err := dying.Get("a"); err != api.ErrDead {
		t.Fatal(err)
	}
	all[api.Dead] = dying
	for status, s := range all {
		if s.Status() != status {
			t.Fatalf("the status is %d, not %d", s.Status(), status)
		}
	}
	return all
}

func TestP19_5_EveryStatus(t *testing.T) {
	want := []error{api.ErrStatus, api.ErrStatus, nil, api.ErrStatus, api.ErrDead}
	for status, s := range stores(t) {
		for _, l := range [][]api.Change{nil, changes(absent("b")), changes(turned("a", "1", "1")), changes(turned("a", "1", "2"), has("b", "")), changes(had("a", "2"), had("b", ""))} {
			if e := diff.Apply(s, l); e != want[status] || s.Status() != status {
				t.Errorf("status %d: Apply(%v): %v, and the status is %d", status, l, e, s.Status())
			}
		}
	}
}

func TestP19_5_StatusAheadOfAllElse(t *testing.T) {
	key, long := strings.Repeat("k", 256), strings.Repeat("v", 701)
	wrong := [][]api.Change{changes(has("b", "1"), had("a", "9")), changes(has("", long)), changes(has(key, "")), changes(had("zz", "9"))}
	want := []error{api.ErrStatus, api.ErrStatus, nil, api.ErrStatus, api.ErrDead}
	for status, s := range stores(t) {
		if status == api.Working {
			continue
		}
		for _, l := range wrong {
			if err := diff.Apply(s, l); err != want[status] || s.Status() != status {
				t.Errorf("status %d: Apply(%s): %v", status, show(l), err)
			}
		}
	}
}

// A store that Apply refuses is used as ever.
func TestP19_5_ARefusalLeavesTheStoreAsItWas(t *testing.T) {
	s, _ := opened(t, 8, pairs("a=1"))
	if err := diff.Apply(s, changes(turned("a", "1", "2"))); err != api.ErrStatus {
		t.Error(err)
	}
	must(t, s.Begin())
	if err := diff.Apply(s, changes(had("a", "x"))); err != api.ErrLost {
		t.Error(err)
	}
	if err := diff.Apply(s, changes(had("b", "x"))); err != api.ErrLost {
		t.Error(err)
	}
	must(t, diff.Apply(s, changes(had("a", "1"), has("b", "2"))))
	must(t, s.Commit())
	wantHeld(t, "behind the commit", s, pairs("b=2"))
}

// Of several errors the first of the chapter's order is told, wherever they stand in the list.
func TestP19_5_TheOrderOfErrors(t *testing.T) {
	key, long := strings.Repeat("k", 256), strings.Repeat("v", 701)
	for _, c := range []struct {
		l   []api.Change
		err error
	}{
		{changes(has("b", "1"), turned("a", "1", "2")), api.ErrOrder},
		{changes(turned("a", "1", "2"), turned("a", "2", "3")), api.ErrOrder},
		{changes(absent(""), absent("")), api.ErrOrder},
		{changes(has(key, long), had("a", "9")), api.ErrOrder},
		{changes(had("a", "9"), has(key, long), has("b", "")), api.ErrOrder},
		{changes(has("", "1")), api.ErrArg},
		{changes(absent("")), api.ErrArg},
		{changes(had("", "1"), had("a", "9")), api.ErrArg},
		{changes(had("a", "9"), has(key, "1")), api.ErrArg},
		{changes(had("a", "9"), absent(key)), api.ErrArg},
		{changes(had("a", "9"), had("b", ""), has("c", long)), api.ErrArg},
		{changes(turned("a", "1", "2"), has("c", long)), api.ErrArg},
		{changes(turned("a", long, long)), api.ErrArg},
		{changes(api.Change{Key: "a", Had: true, Old: "1", New: long}), api.ErrArg},
		{changes(api.Change{Key: "b", New: long}), api.ErrArg},
		{changes(had("a", long)), api.ErrLost},
		{changes(turned("a", long, "2")), api.ErrLost},
		{changes(turned("a", "1", "2"), had("x", "9")), api.ErrLost},
		{changes(had("a", "2"), has("x", "9")), api.ErrLost},
		{changes(has("0", "1"), has("a", "2"), has("x", "9")), api.ErrLost},
		{changes(has("a", "1")), api.ErrLost},
		{changes(absent("a")), api.ErrLost},
		{changes(turned("b", "", "")), api.ErrLost},
		{changes(had("b", "")), api.ErrLost},
		{changes(api.Change{Key: "b", Old: "1", Has: true, New: "2"}), api.ErrLost},
		{changes(turned("a", "", "2")), api.ErrLost},
	} {
		s := working(t, "a=1")
		if err := diff.Apply(s, c.l); err != c.err || s.Status() != api.Working {
			t.Errorf("Apply(%s): %v, want %v", show(c.l), err, c.err)
		}
		wantHeld(t, show(c.l), s, pairs("a=1"))
	}
}

func TestP19_5_KeysAndValuesAsLongAsMayBe(t *testing.T) {
	for _, n := range []int{0, 1, 2, api.MaxKey - 1, api.MaxKey, api.MaxKey + 1, 3000} {
		for _, size := range []int{0, 1, api.MaxValue, api.MaxValue + 1, 5000} {
			s, want := working(t), error(nil)
			if n == 0 || n > api.MaxKey || size > api.MaxValue {
				want = api.ErrArg
			}
			c := has(strings.Repeat("k", n), strings.Repeat("v", size))
			if err := diff.Apply(s, changes(c)); err != want {
				t.Errorf("a key of %d and a New of %d: %v", n, size, err)
				continue
			}
			if want != nil {
				wantHeld(t, "refused", s, nil)
				continue
			}
			wantHeld(t, "put", s, []api.Pair{{Key: c.Key, Value: c.New}})
			must(t, diff.Apply(s, diff.Invert(changes(c))))
			wantHeld(t, "taken back", s, nil)
		}
	}
}

func written(d *device.Device) int {
	_, n, _ := d.Counts()
	return n
}

// A Put would be seen in what the next commit writes: more than the meta's sector.
func TestP19_5_IdleChangesPutNothing(t *testing.T) {
	for _, l := range [][]api.Change{
		nil,
		changes(turned("a", "1", "1")),
		changes(turned("e", "", "")),
		changes(absent("0"), turned("a", "1", "1"), absent("b"), turned("e", "", ""), absent("z")),
		changes(api.Change{Key: "b", New: "not put"}),
	} {
		s, d := opened(t, 64, pairs("a=1", "e="))
		must(t, s.Begin())
		must(t, diff.Apply(s, l))
		wantHeld(t, "idle", s, pairs("a=1", "e="))
		before := written(d)
		must(t, s.Commit())
		if n := written(d) - before; n != 1 {
			t.Errorf("%v: %d sectors written", l, n)
		}
	}
}

// Apply itself neither writes nor commits.
func TestP19_5_InTheTransactionAlone(t *testing.T) {
	s, d := opened(t, 64, pairs("a=1"))
	must(t, s.Begin())
	must(t, s.Put("c", "3"))
	before, txid := written(d), s.Txid()
	must(t, diff.Apply(s, changes(had("a", "1"), has("b", "2"), turned("c", "3", "4"))))
	if written(d) != before || s.Txid() != txid || s.Status() != api.Working {
		t.Errorf("%d sectors written, transaction %d, status %d", written(d)-before, s.Txid(), s.Status())
	}
	wantHeld(t, "at hand", s, pairs("b=2", "c=4"))
	must(t, s.Rollback())
	wantHeld(t, "rolled back", s, pairs("a=1"))
}

// storable is those of some keys and values that a store may have.
func storable() ([]string, []string) {
	keys := slices.DeleteFunc(manyKeys(), func(k string) bool { return k == "" || len(k) > api.MaxKey })
	values := slices.DeleteFunc(oddValues(), func(v string) bool { return len(v) > api.MaxValue })
	return keys, values
}

// What the store has behind Apply is what Patch says, ahead of the commit, behind it, and opened anew.
func TestP19_5_AsPatchSays(t *testing.T) {
	t.Parallel()
	r, seen := rand.New(rand.NewSource(195)), map[error]int{}
	keys, values := storable()
	state := book{}
	s, d := opened(t, 1000, nil)
	for range 120 {
		goal := randomState(r, keys, values)
		if r.Intn(2) == 0 {
			goal = bookOf(state.pairs())
			for range 5 {
				goal[keys[r.Intn(len(keys))]] = values[r.Intn(len(values))]
				delete(goal, keys[r.Intn(len(keys))])
			}
		}
		l := strewn(r, state, goal)
		want, wantErr := plainPatch(state.pairs(), l)
		must(t, s.Begin())
		if slices.ContainsFunc(l, func(c api.Change) bool { return len(c.Key) > api.MaxKey }) {
			wantErr = api.ErrArg
		}
		if err := diff.Apply(s, l); err != wantErr {
			t.Fatalf("%v, want %v", err, wantErr)
		}
		seen[wantErr]++
		if wantErr != nil {
			want = state.pairs()
		}
		wantHeld(t, "at hand", s, want)
		must(t, s.Commit())
		wantHeld(t, "committed", s, want)
		s = kv.New(d)
		must(t, s.Open())
		wantHeld(t, "opened anew", s, want)
		state = bookOf(want)
	}
	if seen[nil] < 40 || seen[api.ErrLost] < 10 {
		t.Errorf("%v", seen)
	}
}

// The power is gone, and the store has not heard of it: it says so as soon as it is asked.
func TestP19_5_PowerGoneInATransaction(t *testing.T) {
	for _, l := range [][]api.Change{changes(turned("a", "1", "2")), changes(turned("a", "1", "1")), changes(had("x", "9")), changes(has("b", ""))} {
		s, d := opened(t, 64, pairs("a=1"))
		must(t, s.Begin())
		d.Crash(nil)
		if err := diff.Apply(s, l); err != api.ErrDead || s.Status() != api.Dead {
			t.Errorf("%v: %v, status %d", l, err, s.Status())
		}
		d.Revive()
		if err := diff.Apply(s, nil); err != api.ErrDead {
			t.Errorf("revived: %v", err)
		}
		s = kv.New(d)
		must(t, s.Open())
		wantHeld(t, "opened anew", s, pairs("a=1"))
	}
}

// The Status of a store that has not heard of it is Working yet: what is wrong with the changes is told without asking it.
func TestP19_5_PowerGoneAndWrongChanges(t *testing.T) {
	s, d := opened(t, 64, pairs("a=1"))
	must(t, s.Begin())
	d.Crash(nil)
	for _, c := range []struct {
		l   []api.Change
		err error
	}{
		{changes(has("b", ""), has("b", "")), api.ErrOrder},
		{changes(has("", "1")), api.ErrArg},
		{changes(had("a", "1"), has(strings.Repeat("k", 256), "1")), api.ErrArg},
		{changes(had("a", "1"), has("b", strings.Repeat("v", 701))), api.ErrArg},
	} {
		if err := diff.Apply(s, c.l); err != c.err || s.Status() != api.Working {
			t.Errorf("%s: %v, want %v", show(c.l), err, c.err)
		}
	}
	if err := diff.Apply(s, changes(had("a", "1"))); err != api.ErrDead || s.Status() != api.Dead {
		t.Errorf("%v, status %d", err, s.Status())
	}
}

// twoLeaves is a store in a transaction whose two leaves hold a0 .. a2 and b0 .. b2, each with a value of 695 bytes: six pairs are too many for one leaf, and three just enough.
func twoLeaves(t *testing.T) (*kv.Store, *device.Device, []api.Pair) {
	t.Helper()
	var l []api.Pair
	for _, k := range []string{"a0", "a1", "a2", "b0", "b1", "b2"} {
		l = append(l, api.Pair{Key: k, Value: strings.Repeat("v", 695)})
	}
	s, d := opened(t, 64, l)
	must(t, s.Begin())
	return s, d, l
}

// Page 2 is the left leaf, page 3 the right one, page 4 the root.
func TestP19_5_AStoreThatFailsWhenItIsAsked(t *testing.T) {
	s, d, l := twoLeaves(t)
	spoil(t, d, 3)
	value := l[0].Value
	if err := diff.Apply(s, changes(turned("a0", value, "1"), turned("b0", value, "1"))); err != api.ErrCorrupt || s.Status() != api.Working {
		t.Errorf("%v, status %d", err, s.Status())
	}
	if v, _, err := s.Get("a0"); v != value || err != nil {
		t.Errorf("something was made: %.9q, %v", v, err)
	}
}

func TestP19_5_AStoreThatFailsOnTheWay(t *testing.T) {
	value := strings.Repeat("v", 695)
	for _, c := range []api.Change{had("a1", value), turned("a1", value, "short")} {
		s, d, _ := twoLeaves(t)
		spoil(t, d, 3)
		if err := diff.Apply(s, changes(c)); err != api.ErrCorrupt || s.Status() != api.Working {
			t.Errorf("%v, status %d", err, s.Status())
		}
		if v, _, err := s.Get("a1"); v != value || err != nil {
			t.Errorf("%.9q, %v", v, err)
		}
	}
}

func TestP19_5_Examples(t *testing.T) {
	s, _ := opened(t, 64, nil)
	if err := diff.Apply(s, changes(had("a", "x"))); err != api.ErrStatus {
		t.Errorf("in Opened: %v", err)
	}
	must(t, s.Begin())
	if err := diff.Apply(s, changes(had("a", "x"))); err != api.ErrLost {
		t.Errorf("in Working: %v", err)
	}
}
