package pager_test

import (
	"fmt"
	"math/rand"
	"slices"
	"strings"
	"testing"

	"copse/api"
	"copse/device"
	"copse/pager"
	"copse/walk"
)

// wantFailed lets the power fail in an operation of a commit, and holds what is left against what is left by hand.
func wantFailed(t *testing.T, what string, s shop, w work, k int, fates []api.Fate) {
	t.Helper()
	d := clone(t, s.d)
	p := boot(t, d)
	r := p.Tree()
	b := s.book.apply(t, r, w.changes)
	ops, next := commitOps(t, d, r)
	n, room := r.Changed(), p.Free()
	d.Arm(k, fates)
	if err := p.Commit(r); err != api.ErrDead || !d.Dead() {
		t.Fatalf("%s: %v", what, err)
	}
	wantSame(t, what, d, played(t, s.d, ops[:k+1], fates))
	if p.Meta() != s.meta || p.Free() != room {
		t.Fatalf("%s: the pager says %v, %d free, want what it said before: %v, %d", what, p.Meta(), p.Free(), s.meta, room)
	}
	d.Revive()
	wantAsItWas(t, what, r, n, b)
	if k < n+1 || k == n+1 && !metaIsThere(t, d, ops[n+1]) {
		next, b = s.meta, s.book
	}
	wantHeld(t, what, d, next, b)
	wantGoesOn(t, what, d, next, b)
}

// metaIsThere tells if what a write was to lay lies there.
func metaIsThere(t *testing.T, d *device.Device, o op) bool {
	t.Helper()
	p, err := d.Read(o.sector, 1)
	must(t, err)
	return slices.Equal(p, o.data)
}

// wantGoesOn opens the store anew behind a failure, and commits to it.
func wantGoesOn(t *testing.T, what string, d *device.Device, m api.Meta, b book) {
	t.Helper()
	p := boot(t, d)
	wantPager(t, what, p, d)
	r := p.Tree()
	b = b.apply(t, r, []change{{key: "onward", value: "1"}})
	must(t, p.Commit(r))
	if p.Meta().Txid != m.Txid+1 {
		t.Fatalf("%s: then %v", what, p.Meta())
	}
	wantHeld(t, what+": then", d, p.Meta(), b)
}

func TestP13_6_InEveryOperationOfACommit(t *testing.T) {
	rnd := rand.New(rand.NewSource(6))
	for _, s := range shops(t) {
		for _, w := range works() {
			r := s.tree()
			s.book.apply(t, r, w.changes)
			ops, _ := commitOps(t, s.d, r)
			for k := range ops {
				all := fatesOf(rnd, pending(ops[:k+1]))
				if len(s.book) > 9 { // each is dear there
					all = [][]api.Fate{all[rnd.Intn(len(all))]}
				}
				for _, fates := range all {
					wantFailed(t, fmt.Sprintf("%s: %s: operation %d of %d, %v", s.name, w.name, k, len(ops), fates), s, w, k, fates)
				}
			}
		}
	}
}

// Each cut of the meta's sector: behind its sum all is zero, so that what is torn there is whole.
func TestP13_6_EachTearOfTheMeta(t *testing.T) {
	s := sized(t, 10, []change{{key: "a", value: "1"}})
	w := work{"one pair", []change{{key: "a", value: "2"}}}
	for cut := range 40 {
		for _, junk := range []string{"", "z", strings.Repeat("z", 600)} {
			wantFailed(t, fmt.Sprint("cut at ", cut, ", junk ", len(junk)), s, w, 2, []api.Fate{{Index: 0, Kind: api.FateTear, Cut: cut, Junk: junk}})
		}
	}
	old, err := s.d.Read(0, 1)
	must(t, err)
	for _, cut := range []int{0, 4, 8} { // what stood there, or the new beginning of it
		wantFailed(t, fmt.Sprint("cut at ", cut, ", what stood there"), s, w, 2, []api.Fate{{Index: 0, Kind: api.FateTear, Cut: cut, Junk: string(old[cut:])}})
	}
}

func TestP13_6_BehindACommit(t *testing.T) {
	rnd := rand.New(rand.NewSource(66))
	for _, s := range shops(t) {
		for _, w := range works() {
			d := clone(t, s.d)
			p := boot(t, d)
			r := p.Tree()
			b := s.book.apply(t, r, w.changes)
			must(t, p.Commit(r))
			if l := d.Pending(); len(l) != 0 {
				t.Fatalf("%s: %s: %d writes are pending", s.name, w.name, len(l))
			}
			d.Crash(fatesOf(rnd, 9)[rnd.Intn(8)])
			d.Revive()
			wantHeld(t, s.name+": "+w.name, d, p.Meta(), b)
		}
	}
}

// TestP13_6_OnAndOn: commits, one behind the other, in some of which the power fails.
func TestP13_6_OnAndOn(t *testing.T) {
	rnd := rand.New(rand.NewSource(67))
	for _, pages := range []int{20, 60} {
		d, p := formatted(t, 8*pages)
		b, m, old, young := book{}, api.Meta{Pages: pages}, 0, 0
		for i := range 400 {
			r := p.Tree()
			c := b.apply(t, r, anyChanges(rnd, (7*pages-24)/8))
			n := r.Changed()
			fails := rnd.Intn(3) > 0
			k := rnd.Intn(n + 3)
			if fails {
				d.Arm(k, fatesOf(rnd, 8*n)[rnd.Intn(8)])
			}
			err := p.Commit(r)
			if fails != (err == api.ErrDead) || !fails && err != nil {
				t.Fatalf("commit %d, fails %v: %v", i, fails, err)
			}
			d.Revive()
			s, _ := walk.Survey(d)
			what := fmt.Sprintf("commit %d, fails %v in operation %d of %d", i, fails, k, n+3)
			if s.Meta == m && fails && k < n+2 {
				old++
			} else {
				young++
				b, m = c, api.Meta{Pages: pages, Root: s.Meta.Root, Txid: m.Txid + 1}
			}
			wantHeld(t, what, d, m, b)
			if fails {
				p = boot(t, d)
			}
			wantPager(t, what, p, d)
		}
		if old < 50 || young < 50 {
			t.Errorf("%d times the old one, %d times the new one", old, young)
		}
	}
}

// kindOf is what a device holds behind a failure: nothing, the store that was there, or the empty one.
func kindOf(t *testing.T, what string, d, was *device.Device) string {
	t.Helper()
	s, err := walk.Survey(d)
	if err == api.ErrCorrupt {
		return "nothing"
	}
	must(t, err)
	if old, fault := walk.Survey(was); fault == nil && old.Meta == s.Meta {
		l, err := walk.Content(d)
		must(t, err)
		if k, err := walk.Content(was); err != nil || !slices.Equal(k, l) {
			t.Fatalf("%s: other pairs, %v", what, err)
		}
		return "the old"
	}
	if s.Meta != (api.Meta{Pages: d.Size() / 8}) || s.Pairs != 0 {
		t.Fatalf("%s: %v", what, s)
	}
	return "the empty"
}

func TestP13_7_InEveryOperationOfAFormat(t *testing.T) {
	rnd := rand.New(rand.NewSource(7))
	seen := map[string]int{}
	var devices []*device.Device
	for _, s := range shops(t) {
		devices = append(devices, s.d)
	}
	for _, slots := range slotImages(t) {
		devices = append(devices, whole(t, slots, 80))
	}
	for i, was := range append(devices, device.New(80)) {
		ops := formatOps(t, was)
		_, none := walk.Survey(was)
		for k := range ops {
			for _, fates := range fatesOf(rnd, pending(ops[:k+1])) {
				what := fmt.Sprintf("device %d, operation %d, %v", i, k, fates)
				d := clone(t, was)
				d.Arm(k, fates)
				if err := pager.Format(d); err != api.ErrDead {
					t.Fatalf("%s: %v", what, err)
				}
				wantSame(t, what, d, played(t, was, ops[:k+1], fates))
				d.Revive()
				kind := kindOf(t, what, d, was)
				seen[fmt.Sprint(k, kind)]++
				if k < 2 && none == nil && kind != "the old" || k == 5 && kind == "nothing" {
					t.Errorf("%s: %s", what, kind)
				}
				must(t, pager.Format(d))
				wantHeld(t, what, d, api.Meta{Pages: d.Size() / 8}, nil)
			}
		}
	}
	for _, kind := range []string{"0the old", "1the old", "2the old", "2nothing", "3nothing", "4nothing", "4the empty", "5the empty"} {
		if seen[kind] == 0 {
			t.Errorf("never seen: %s", kind)
		}
	}
}

func TestP13_7_BehindAFormat(t *testing.T) {
	for _, s := range shops(t) {
		must(t, pager.Format(s.d))
		if l := s.d.Pending(); len(l) != 0 {
			t.Fatalf("%s: %d writes are pending", s.name, len(l))
		}
		s.d.Crash(nil)
		s.d.Revive()
		wantHeld(t, s.name, s.d, api.Meta{Pages: s.meta.Pages}, nil)
	}
}

// touched is the numbers of the sectors in which two devices differ.
func touched(t *testing.T, a, b *device.Device) []int {
	t.Helper()
	var l []int
	for i := range a.Size() {
		p, err := a.Read(i, 1)
		must(t, err)
		q, err := b.Read(i, 1)
		must(t, err)
		if !slices.Equal(p, q) {
			l = append(l, i)
		}
	}
	return l
}

func TestP13_8_AheadOfTheFirstSync(t *testing.T) {
	for _, s := range shops(t) {
		for _, w := range works() {
			d := clone(t, s.d)
			p := boot(t, d)
			r := p.Tree()
			s.book.apply(t, r, w.changes)
			n, since := r.Changed(), counts(d)
			d.Arm(n, nil) // the first sync comes through, and nothing behind it
			if err := p.Commit(r); err != api.ErrDead || counts(d)[2]-since[2] != 1 {
				t.Fatalf("%s: %s: %v", s.name, w.name, err)
			}
			d.Revive()
			was, err := walk.Survey(s.d)
			must(t, err)
			for _, i := range touched(t, d, s.d) {
				if i < 16 || slices.Contains(was.Pages, i/8) {
					t.Errorf("%s: %s: sector %d is written to", s.name, w.name, i)
				}
			}
			if written := counts(d)[1] - since[1]; written != 8*n {
				t.Errorf("%s: %s: %d sectors written, want %d", s.name, w.name, written, 8*n)
			}
		}
	}
}

// Which writes are pending ahead of the first sync, in their order: those of pages that were free.
func TestP13_8_OnlyFreePages(t *testing.T) {
	for _, s := range shops(t) {
		for _, w := range works() {
			r := s.tree()
			s.book.apply(t, r, w.changes)
			ops, _ := commitOps(t, s.d, r)
			for k := range r.Changed() {
				d := clone(t, s.d)
				p := boot(t, d)
				r := p.Tree()
				s.book.apply(t, r, w.changes)
				var fates []api.Fate
				for i := range 8 { // the last page alone is kept
					fates = append(fates, api.Fate{Index: 8*k + i, Kind: api.FateKeep})
				}
				d.Arm(k, fates)
				if err := p.Commit(r); err != api.ErrDead {
					t.Fatal(err)
				}
				d.Revive()
				if l := touched(t, d, s.d); len(l) == 0 || l[0]/8 != ops[k].sector/8 || l[len(l)-1]/8 != ops[k].sector/8 {
					t.Errorf("%s: %s: write %d went to the sectors %v, want page %d", s.name, w.name, k, l, ops[k].sector/8)
				}
			}
		}
	}
}
