package kv_test

import (
	"fmt"
	"maps"
	"math"
	"math/rand"
	"slices"
	"strings"
	"testing"

	"copse/api"
	"copse/device"
	"copse/kv"
	"copse/meta"
	"copse/walk"
)

// wantSettled lets the power fail and stores be opened a few times more: what is found is the same for good.
func wantSettled(t *testing.T, what string, d *device.Device, txid uint64, b book) {
	t.Helper()
	for range 2 {
		s := wantFound(t, what, d, txid, b)
		must(t, s.Begin())
		must(t, s.Put("lost", "1"))
		d.Crash([]api.Fate{{Index: 0, Kind: api.FateKeep}})
		wantDead(t, what, s)
		d.Revive()
	}
	w := twinOver(t, d)
	w.do(call{name: "Open"})
	w.work(put("onward", "1"))
	w.wantDevice(what)
	if w.m.txid != txid+1 && txid != math.MaxUint64 {
		t.Fatalf("%s: then transaction %d", what, w.m.txid)
	}
}

// wantFailed lets the power fail in an operation of a Commit, and holds what is found against what was and what was to be.
func wantFailed(t *testing.T, what string, s shop, l work, k int, fates []api.Fate) (isNew bool) {
	t.Helper()
	ops, next, b := s.commitOps(t, l.calls)
	d := clone(t, s.d)
	w := twinOver(t, d)
	w.do(call{name: "Open"})
	w.begin()
	w.all(l.calls)
	d.Arm(k, fates)
	if err := w.s.Commit(); err != api.ErrDead || w.s.Status() != api.Dead || w.s.Txid() != 0 || !d.Dead() {
		t.Fatalf("%s: Commit = %v, %s, transaction %d", what, err, statusNames[w.s.Status()], w.s.Txid())
	}
	wantDead(t, what, w.s)
	byHand := s.played(t, ops[:k+1], fates)
	wantSame(t, what, d, byHand)
	d.Revive()
	wantDead(t, what, w.s)
	m, err := meta.Load(d)
	must(t, err)
	isNew = m == next
	if n := len(ops); k < n-2 && isNew || k == n-1 && !isNew {
		t.Fatalf("%s: %v", what, m)
	}
	if !isNew {
		next, b = s.meta, s.book
	}
	wantSettled(t, what, d, next.Txid, b)
	byHand.Revive()
	wantFound(t, what, byHand, next.Txid, b)
	return isNew
}

func TestP14_6_InEveryOperationOfACommit(t *testing.T) {
	rnd := rand.New(rand.NewSource(146))
	seen := map[string]int{}
	for _, s := range shops(t) {
		for _, l := range works() {
			ops, _, _ := s.commitOps(t, l.calls)
			for k := range ops {
				all := fatesOf(rnd, pending(ops[:k+1]))
				if len(s.book) > 9 { // each is dear there
					all = all[rnd.Intn(len(all)):][:rnd.Intn(2)]
				}
				for _, fates := range all {
					isNew := wantFailed(t, fmt.Sprintf("%s: %s: operation %d of %d, %v", s.name, l.name, k, len(ops), fates), s, l, k, fates)
					seen[fmt.Sprintf("%d %v", len(ops)-k, isNew)]++
				}
			}
		}
	}
	for _, kind := range []string{"4 false", "3 false", "2 false", "2 true", "1 true"} {
		if seen[kind] < 5 {
			t.Errorf("the operation from the end, and whether it is the new one: %s was seen %d times", kind, seen[kind])
		}
	}
}

// Each cut of the meta's sector: behind its sum all is zero, so that what is torn there is whole.
func TestP14_6_EachTearOfTheMeta(t *testing.T) {
	s := shops(t)[3]
	l := work{"one pair", []call{put("a", "2")}}
	for cut := range 40 {
		for _, junk := range []string{"", "z", strings.Repeat("z", 600)} {
			isNew := wantFailed(t, fmt.Sprint("cut at ", cut, ", junk ", len(junk)), s, l, 2, []api.Fate{{Index: 0, Kind: api.FateTear, Cut: cut, Junk: junk}})
			if isNew && cut < 27 {
				t.Errorf("cut at %d: the new one", cut)
			}
		}
	}
	old, err := s.d.Read(8, 1)
	must(t, err)
	for _, cut := range []int{0, 4, 8} {
		wantFailed(t, fmt.Sprint("cut at ", cut, ", what stood there"), s, l, 2, []api.Fate{{Index: 0, Kind: api.FateTear, Cut: cut, Junk: string(old[cut:])}})
	}
}

// found is what a new store finds on a device: nothing, the store that was there, or the empty one.
func found(t *testing.T, what string, d *device.Device, s shop) string {
	t.Helper()
	k, since := kv.New(d), counts(d)
	err := k.Open()
	if now := counts(d); now[1] != since[1] || now[2] != since[2] {
		t.Fatalf("%s: Open has written", what)
	}
	if err == api.ErrCorrupt && k.Status() == api.Closed {
		return "nothing"
	}
	must(t, err)
	if k.Txid() == s.meta.Txid && (s.meta.Txid != 0 || len(s.book) > 0) {
		wantPairs(t, what, k, s.book)
		return "the old"
	}
	if k.Txid() != 0 {
		t.Fatalf("%s: transaction %d", what, k.Txid())
	}
	wantPairs(t, what, k, book{})
	return "the empty"
}

func TestP14_6_InEveryOperationOfAFormat(t *testing.T) {
	rnd := rand.New(rand.NewSource(147))
	seen := map[string]int{}
	for _, s := range shops(t)[1:] {
		ops := s.formatOps(t)
		for k := range ops {
			for i, fates := range fatesOf(rnd, pending(ops[:k+1])) {
				what := fmt.Sprintf("%s: operation %d, %v", s.name, k, fates)
				d := clone(t, s.d)
				w := twinOver(t, d)
				if i%2 == 0 {
					w.do(call{name: "Open"})
				}
				d.Arm(k, fates)
				if err := w.s.Format(); err != api.ErrDead || w.s.Status() != api.Dead || w.s.Txid() != 0 {
					t.Fatalf("%s: Format = %v, %s, transaction %d", what, err, statusNames[w.s.Status()], w.s.Txid())
				}
				wantDead(t, what, w.s)
				byHand := s.played(t, ops[:k+1], fates)
				wantSame(t, what, d, byHand)
				d.Revive()
				wantDead(t, what, w.s)
				kind := found(t, what, d, s)
				seen[fmt.Sprint(k, kind)]++
				for range 3 {
					d.Crash(fates)
					d.Revive()
					if again := found(t, what, d, s); again != kind {
						t.Fatalf("%s: %s, and then %s", what, kind, again)
					}
				}
				wantGoesOnFrom(t, what, d, s, kind)
			}
		}
	}
	want := []string{"0the old", "1the old", "2nothing", "2the old", "3nothing", "4nothing", "4the empty", "5the empty"}
	if kinds := slices.Sorted(maps.Keys(seen)); !slices.Equal(kinds, want) {
		t.Errorf("the operations and what was found: %v, want %v", kinds, want)
	}
}

// wantGoesOnFrom works with what was found, or formats it anew.
func wantGoesOnFrom(t *testing.T, what string, d *device.Device, s shop, kind string) {
	t.Helper()
	w := newTwin(t, d)
	switch kind {
	case "nothing":
		w.do(call{name: "Open"})
		w.do(call{name: "Format"})
	case "the old":
		w.m.holds, w.m.txid, w.m.counts = true, s.meta.Txid, s.book
	case "the empty":
		w.m.holds, w.m.counts = true, book{}
	}
	w.do(call{name: "Open"})
	w.wantGoesOn()
	w.wantDevice(what)
}

// A failure outside of Format and Commit, whatever the fates: nothing is pending there.
func TestP14_6_OutsideOfFormatAndCommit(t *testing.T) {
	rnd := rand.New(rand.NewSource(148))
	for _, fates := range fatesOf(rnd, 9)[4:] {
		eachStatus(t, func(what string, fresh func() *twin) {
			w := fresh()
			holds, txid, b := w.m.holds, w.m.txid, w.m.counts
			w.d.Crash(fates)
			w.d.Revive()
			if !holds {
				w.again()
				return
			}
			wantSettled(t, what, w.d, txid, b)
		})
		for _, s := range shops(t) {
			for _, l := range works() {
				d := clone(t, s.d)
				w := twinOver(t, d)
				w.do(call{name: "Open"})
				w.work(l.calls...)
				d.Crash(fates)
				wantDead(t, s.name, w.s)
				d.Revive()
				wantFound(t, s.name+": "+l.name, d, w.m.txid, w.m.counts)
			}
		}
	}
}

// An arm that is not come to in a call stays for the next one that writes.
func TestP14_6_AnArmWaits(t *testing.T) {
	w := opened(t, 80)
	w.work(put("a", "1"))
	w.d.Arm(4, nil) // a page, a sync, the meta, a sync come through
	w.begin()
	w.all([]call{put("a", "2"), {name: "Get", key: "a"}})
	w.rollback()
	w.do(call{name: "Close"})
	w.do(call{name: "Open"})
	w.work(put("a", "3"))
	w.begin()
	w.all([]call{put("a", "4")})
	if err := w.s.Commit(); err != api.ErrDead {
		t.Fatalf("Commit = %v", err)
	}
	w.again()
	w.wantDevice("an arm")
	if w.m.txid != 2 || w.m.counts["a"] != "3" {
		t.Errorf("transaction %d, a: %q", w.m.txid, w.m.counts["a"])
	}
}

// TestP14_6_OnAndOn: long runs in which the power fails now and then, in a call or between two.
func TestP14_6_OnAndOn(t *testing.T) {
	rnd := rand.New(rand.NewSource(149))
	tally := map[string]int{}
	for _, sectors := range []int{32, 40, 64, 101, 200, 480} {
		w := opened(t, sectors)
		for range 4000 {
			c := anyCallOf(rnd, w)
			if rnd.Intn(40) == 0 {
				c = call{name: "Format"}
			}
			switch rnd.Intn(24) {
			case 0, 1, 2:
				w.failIn(rnd, c, tally)
			case 3:
				w.d.Crash(fatesOf(rnd, 3)[rnd.Intn(8)])
				w.do(c)
				tally["between"]++
			default:
				w.do(c)
			}
			if w.m.status == api.Dead && rnd.Intn(4) > 0 {
				w.again()
				if w.m.holds {
					w.wantDevice("opened")
				}
			}
		}
	}
	for _, kind := range []string{"between", "Commit, the old", "Commit, the new", "Format, the old", "Format, the empty", "Format, nothing", "not come to"} {
		if tally[kind] < 3 {
			t.Errorf("%s: %d times", kind, tally[kind])
		}
	}
}

// failIn lets the power fail in a call, if it writes so much, and lets the model hold what is left then.
func (w *twin) failIn(rnd *rand.Rand, c call, tally map[string]int) {
	w.t.Helper()
	writes := slices.Contains(mayCome[c.name], w.m.status) && (c.name == "Commit" && w.m.txid < 1<<64-1 && w.shadow.Changed() <= w.free || c.name == "Format")
	if w.d.Dead() || !writes {
		w.do(c)
		tally["not come to"]++
		return
	}
	operations := 6
	if c.name == "Commit" {
		operations = w.shadow.Changed() + 3
	}
	w.d.Arm(rnd.Intn(operations), fatesOf(rnd, 30)[rnd.Intn(8)])
	old := *w.m
	if a := c.of(w.s); a.err != api.ErrDead {
		w.t.Fatalf("%v = %v", c, a)
	}
	w.m.status = api.Dead
	w.wantStatus(c)
	w.d.Revive()
	defer w.d.Crash(nil)
	s, err := walk.Survey(w.d)
	switch {
	case err != nil && c.name == "Format":
		w.m.holds = false
		tally["Format, nothing"]++
	case err != nil:
		w.t.Fatalf("behind %v: %v", c, err)
	case old.holds && s.Meta.Txid == old.txid && (c.name == "Commit" || old.txid > 0):
		tally[c.name+", the old"]++
	case c.name == "Commit":
		w.m.txid, w.m.counts = old.txid+1, old.hand
		tally["Commit, the new"]++
	default:
		w.m.holds, w.m.txid, w.m.counts = true, 0, book{}
		tally["Format, the empty"]++
	}
	if w.m.holds {
		w.wantDevice(c)
	}
}
