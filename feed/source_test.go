package feed_test

import (
	"fmt"
	"maps"
	"math"
	"math/rand"
	"slices"
	"strings"
	"testing"

	"copse/api"
	"copse/device"
	"copse/feed"
	"copse/kv"
)

// wantNone asks for a batch that is not there.
func wantNone(t *testing.T, what string, s *feed.Source, want error) {
	t.Helper()
	if b, is, err := s.Batch(); !zero(b) || is || err != want {
		t.Fatalf("%s: Batch = %s, %v, %v, want none, %v", what, show(b), is, err, want)
	}
}

// wantBatch asks for a batch, and behind it for none.
func wantBatch(t *testing.T, what string, s *feed.Source, from, to uint64, l []api.Change) {
	t.Helper()
	want := summed(from, to, l...)
	if b, is, err := s.Batch(); !same(b, want) || !is || err != nil {
		t.Fatalf("%s: Batch = %s, %v, %v, want %s", what, show(b), is, err, show(want))
	}
	wantNone(t, what+", again", s, nil)
}

// spoil changes a byte of a sector, durably; done twice all is as it was.
func spoil(t *testing.T, d *device.Device, sector, at int) {
	t.Helper()
	p, err := d.Read(sector, 1)
	must(t, err)
	p[at] ^= 0x55
	must(t, d.Write(sector, p))
	must(t, d.Sync())
}

func TestP20_1_NoStore(t *testing.T) {
	follows := func(what string, d *device.Device, want error) {
		t.Helper()
		was := imageOf(d)
		if s, err := feed.Follow(d); s != nil || err != want {
			t.Errorf("%s: Follow = %v, %v, want %v", what, s, err, want)
		}
		wantUntouched(t, what, d, was)
	}
	for _, sectors := range []int{0, 1, 31, 32, 80, api.MaxSectors} {
		d := device.New(sectors)
		follows(fmt.Sprint(sectors, " zeros"), d, api.ErrCorrupt)
		d.Crash(nil)
		want := api.ErrDead
		if sectors < 32 {
			want = api.ErrCorrupt
		}
		follows(fmt.Sprint(sectors, " zeros, dead"), d, want)
	}
	s, d := opened(t, 8)
	commit(t, s, "a=1")
	spoil(t, d, 16, 30)
	follows("a page that is none", d, api.ErrCorrupt)
	spoil(t, d, 16, 30)
	must(t, func() error { _, err := feed.Follow(d); return err }())
	d.Crash(nil)
	follows("a store, dead", d, api.ErrDead)
}

// stocks is stores of none, one and many pairs, with and without the replica's own key.
func stocks() map[string]book {
	return map[string]book{
		"none":                 {},
		"one":                  {"a": "1"},
		"the own key":          {own: eight(9)},
		"one and the own key":  {"a": "1", own: eight(9)},
		"beside the own key":   {"\xfffeec": "1", own: "x", own + "\x00": "2"},
		"many":                 numbered(200, 300),
		"many and the own key": func() book { b := numbered(200, 300); b[own] = ""; return b }(),
	}
}

// Follow has the pairs and the transaction of the store: what comes later is told from there on.
func TestP20_1_StandsWhereTheStoreIs(t *testing.T) {
	for name, b := range stocks() {
		for _, commits := range []int{0, 1, 4} {
			s, d := opened(t, 60)
			at := book{}
			for range commits {
				write(t, s, at, b)
				at = b
			}
			was := imageOf(d)
			f := follow(t, d)
			wantUntouched(t, name, d, was)
			wantNone(t, name, f, nil)
			now := maps.Clone(at)
			now["k0007"], now["z"] = "other", ""
			delete(now, "k0003")
			write(t, s, at, now)
			wantBatch(t, name, f, uint64(commits), uint64(commits)+1, plainChanges(at.without(), now.without()))
		}
	}
}

func TestP20_1_TheTransactionIsTheStores(t *testing.T) {
	for _, txid := range []uint64{1, 2, 1 << 32, 1 << 63, math.MaxUint64 - 1} {
		s, d := laidAt(t, 8, txid, book{"a": "1"})
		f := follow(t, d)
		wantNone(t, "laid", f, nil)
		commit(t, s, "a=2")
		wantBatch(t, "then", f, txid, txid+1, changes(turned("a", "1", "2")))
	}
	_, d := laidAt(t, 8, math.MaxUint64, book{"a": "1"})
	wantNone(t, "the last", follow(t, d), nil)
}

// What a transaction has not committed is not seen, nor what is rolled back.
func TestP20_2_OnlyWhatIsCommitted(t *testing.T) {
	s, d := opened(t, 8)
	must(t, s.Begin())
	must(t, s.Put("a", "1"))
	f := follow(t, d)
	wantNone(t, "at hand", f, nil)
	must(t, s.Rollback())
	wantNone(t, "rolled back", f, nil)
	must(t, s.Begin())
	must(t, s.Put("b", "1"))
	wantNone(t, "at hand", f, nil)
	must(t, s.Commit())
	wantBatch(t, "committed", f, 0, 1, changes(has("b", "1")))
}

func TestP20_2_Examples(t *testing.T) {
	s, d := opened(t, 8)
	f := follow(t, d)
	wantNone(t, "empty", f, nil)
	commit(t, s, "a=1")
	wantBatch(t, "one", f, 0, 1, changes(has("a", "1")))
	commit(t, s, "a=2", "b=3")
	commit(t, s, "-a")
	wantBatch(t, "two", f, 1, 3, changes(had("a", "1"), has("b", "3")))
}

func TestP20_2_CommitsWithoutAChange(t *testing.T) {
	s, d := opened(t, 8)
	f := follow(t, d)
	commit(t, s)
	wantBatch(t, "of nothing", f, 0, 1, nil)
	commit(t, s, "a=1")
	commit(t, s, "-a")
	wantBatch(t, "there and back", f, 1, 3, nil)
	commit(t, s, "a=1")
	wantBatch(t, "a pair", f, 3, 4, changes(has("a", "1")))
	commit(t, s, "a=1")
	wantBatch(t, "the same pair", f, 4, 5, nil)
	commit(t, s, own+"=1")
	wantBatch(t, "the own key", f, 5, 6, nil)
	commit(t, s, own+"=2")
	commit(t, s, "-"+own)
	wantBatch(t, "the own key", f, 6, 8, nil)
	commit(t, s, "a=", own+"=3")
	wantBatch(t, "an empty value", f, 8, 9, changes(turned("a", "1", "")))
}

// A device that died: the error, as often as it is asked; behind it the source goes on where it stood.
func TestP20_2_ADeviceThatDied(t *testing.T) {
	s, d := opened(t, 8)
	commit(t, s, "a=1")
	f := follow(t, d)
	commit(t, s, "b=2")
	d.Crash(nil)
	for range 3 {
		wantNone(t, "dead", f, api.ErrDead)
	}
	d.Revive()
	s = kv.New(d)
	must(t, s.Open())
	commit(t, s, "c=3")
	wantBatch(t, "alive", f, 1, 3, changes(has("b", "2"), has("c", "3")))
}

func TestP20_2_AStoreThatIsNone(t *testing.T) {
	s, d := opened(t, 8)
	commit(t, s, "a=1") // page 2
	f := follow(t, d)
	for _, txid := range []uint64{1, 2} {
		sector := 16 + 8*int(txid-1)
		spoil(t, d, sector, 40)
		for range 3 {
			wantNone(t, "spoilt", f, api.ErrCorrupt)
		}
		spoil(t, d, sector, 40)
		if txid == 1 {
			wantNone(t, "mended", f, nil)
			commit(t, s, "a=2") // page 3
		}
	}
	wantBatch(t, "mended", f, 1, 2, changes(turned("a", "1", "2")))
}

func TestP20_2_AStoreThatWasFormatted(t *testing.T) {
	s, d := opened(t, 8)
	commit(t, s, "a=1")
	commit(t, s, "b=2")
	commit(t, s, "c=3")
	f := follow(t, d)
	must(t, s.Format())
	for range 3 {
		wantNone(t, "formatted", f, api.ErrOrder)
	}
	d.Crash(nil)
	wantNone(t, "and dead", f, api.ErrDead)
	d.Revive()
	wantNone(t, "and alive", f, api.ErrOrder)
	s = kv.New(d)
	must(t, s.Open())
	commit(t, s, "a=9")
	commit(t, s, "b=2")
	wantNone(t, "not so far yet", f, api.ErrOrder)
	fresh := follow(t, d)
	wantNone(t, "a new one", fresh, nil)
	commit(t, s)
	commit(t, s)
	wantBatch(t, "the new one", fresh, 2, 4, nil)
	wantBatch(t, "beyond where it stood", f, 3, 4, changes(turned("a", "1", "9"), had("c", "3")))
}

// Two sources of one device know nothing of one another.
func TestP20_2_TwoSources(t *testing.T) {
	s, d := opened(t, 8)
	one := follow(t, d)
	commit(t, s, "a=1")
	other := follow(t, d)
	wantBatch(t, "the one", one, 0, 1, changes(has("a", "1")))
	wantNone(t, "the other", other, nil)
	commit(t, s, "-a")
	wantBatch(t, "the other", other, 1, 2, changes(had("a", "1")))
	wantBatch(t, "the one", one, 1, 2, changes(had("a", "1")))
}

// Nothing is ever written, whether there is a batch, none, or an error.
func TestP20_2_NothingIsWritten(t *testing.T) {
	s, d := opened(t, 60)
	f := follow(t, d)
	asked := func(what string, wantIs bool, wantErr error) {
		t.Helper()
		was := imageOf(d)
		if _, is, err := f.Batch(); is != wantIs || err != wantErr {
			t.Errorf("%s: %v, %v", what, is, err)
		}
		wantUntouched(t, what, d, was)
	}
	write(t, s, book{}, numbered(150, 300))
	asked("a batch", true, nil)
	asked("none", false, nil)
	must(t, s.Format())
	asked("formatted", false, api.ErrOrder)
	spoil(t, d, 0, 30)
	asked("spoilt", false, api.ErrCorrupt)
	d.Crash(nil)
	asked("dead", false, api.ErrDead)
}

// Long runs of commits, of keys close to the own one too, told now and then, on stores of several levels.
func TestP20_2_OnAndOn(t *testing.T) {
	r, empty, full := rand.New(rand.NewSource(202)), 0, 0
	keys := append(oddKeys(), own)
	for i := range 60 {
		keys = append(keys, fmt.Sprintf("k%03d", i*7))
	}
	for range 12 {
		s, d := opened(t, 100)
		f, told, at := follow(t, d), book{}, book{}
		var stands uint64
		for range 60 {
			for range r.Intn(3) {
				b := stirred(r, at, keys)
				write(t, s, at, b)
				at = b
			}
			if s.Txid() == stands {
				wantNone(t, "nothing new", f, nil)
				continue
			}
			l := plainChanges(told, at.without())
			wantBatch(t, "on and on", f, stands, s.Txid(), l)
			stands, told = s.Txid(), at.without()
			if len(l) == 0 {
				empty++
			} else {
				full++
			}
		}
		if !maps.Equal(held(t, d), at) {
			t.Fatal("the store has other pairs")
		}
	}
	if empty < 5 || full < 100 {
		t.Errorf("%d without changes, %d with some", empty, full)
	}
}

// A batch of all that a large store holds: every change is there, in order.
func TestP20_2_ManyPairs(t *testing.T) {
	s, d := opened(t, 400)
	f, b := follow(t, d), numbered(1500, 300)
	write(t, s, book{}, b)
	got := next(t, f)
	if !same(got, summed(0, 1, plainChanges(book{}, b)...)) || len(got.Changes) != 1500 {
		t.Error("not all that was put")
	}
	write(t, s, b, book{})
	got = next(t, f)
	if !same(got, summed(1, 2, plainChanges(b, book{})...)) || slices.ContainsFunc(got.Changes, func(c api.Change) bool { return c.Has }) {
		t.Error("not all that was taken away")
	}
	if strings.Contains(show(got), "feed") {
		t.Error("the own key is told")
	}
}
