package space_test

import (
	"fmt"
	"maps"
	"slices"
	"strings"
	"testing"

	"copse/api"
	"copse/device"
	"copse/kv"
	"copse/space"
	"copse/walk"
)

// crowd is a store that counts, of three levels, with the spaces a, b and c; b has pairs of all sizes.
func crowd(t *testing.T) *twin {
	t.Helper()
	w := working(t, 400).made("a", "b", "c")
	for i := range 40 {
		for _, name := range []string{"a", "b", "c"} {
			key := items(text(fmt.Sprint(name, i*7%40, strings.Repeat("k", i*53%230))))
			w.want(nil, call{what: "Put", name: name, key: key, value: strings.Repeat("v", i*191%701)})
		}
	}
	w.commit()
	return w
}

// spoil changes a byte of a page; called again, it is as it was.
func spoil(t *testing.T, d *device.Device, page int) {
	t.Helper()
	p, err := d.Read(8*page, 1)
	must(t, err)
	p[100] ^= 1
	must(t, d.Write(8*page, p))
	must(t, d.Sync())
}

// crowdCalls are calls of each kind, of pairs far from one another.
func crowdCalls(w *twin) []call {
	l := []call{{what: "Names"}, {what: "Make", name: "b!"}, {what: "Make", name: "z"}, {what: "Drop", name: "a"}, {what: "Drop", name: "b"}, {what: "Drop", name: "c"}}
	for _, name := range []string{"a", "b", "c"} {
		keys := w.m.counts.scan(call{name: name, limit: 1000}).keys
		for _, k := range [][]api.Item{keys[3], keys[25]} {
			for _, what := range []string{"Put", "Get", "Delete"} {
				l = append(l, call{what: what, name: name, key: k, value: "new"})
			}
			l = append(l, call{what: "Scan", name: name, key: k, limit: 1})
		}
		l = append(l, call{what: "Scan", name: name, limit: 1}, call{what: "Scan", name: name, limit: 1000})
	}
	return l
}

// Whichever page is spoilt by somebody else: a call answers as if it were not, or ErrCorrupt, and then nothing has changed.
func TestP16_1_ACorruptPageGoesOnAsItIs(t *testing.T) {
	t.Parallel()
	w := crowd(t)
	survey, err := walk.Survey(w.d)
	must(t, err)
	if survey.Depth < 2 {
		t.Fatalf("the tree has %d levels", survey.Depth)
	}
	seen := map[string]int{}
	for _, page := range survey.Pages {
		for _, c := range crowdCalls(w) {
			w.begin()
			spoil(t, w.d, page)
			was := maps.Clone(w.m.hand)
			want := w.m.answer(c)
			got := c.of(w.p)
			spoil(t, w.d, page)
			if got.err == api.ErrCorrupt && got.equals(refused(api.ErrCorrupt)) {
				w.m.hand = was
				seen[c.what]++
			} else if !got.equals(want) {
				t.Fatalf("%v with page %d spoilt = %v, want %v", c, page, got, want)
			}
			if b := stored(t, w.s); !maps.Equal(b, w.m.hand) {
				t.Fatalf("behind %v with page %d spoilt, %v: %d pairs at hand, want %d", c, page, got.err, len(b), len(w.m.hand))
			}
			w.rollback()
		}
	}
	for _, what := range calls {
		if seen[what] == 0 {
			t.Errorf("no page stood in the way of %s", what)
		}
	}
}

// A Scan that has all that it was asked for reads no further.
func TestP16_7_ScanIsLeftEarly(t *testing.T) {
	w := crowd(t)
	reads := func(limit int) int {
		before, _, _ := w.d.Counts()
		w.want(nil, call{what: "Scan", name: "b", limit: limit})
		behind, _, _ := w.d.Counts()
		return behind - before
	}
	if few, all := reads(1), reads(1000); few*2 > all {
		t.Errorf("one pair costs %d sectors, all cost %d", few, all)
	}
}

// The power fails in each operation of a Commit: what is there then is what the spaces had ahead of it, or behind it.
func TestP16_8_ThePowerFailsInACommit(t *testing.T) {
	t.Parallel()
	works := map[string]func(p *space.Spaces) error{
		"a space is dropped": func(p *space.Spaces) error { return p.Drop("b") },
		"one is made, with a pair": func(p *space.Spaces) error {
			if err := p.Make("new"); err != nil {
				return err
			}
			return p.Put("new", items(num(1)), "v")
		},
		"a pair is taken away": func(p *space.Spaces) error {
			_, err := p.Delete("a", items(text("a0")))
			return err
		},
	}
	start := crowd(t)
	for name, work := range works {
		ahead, behind, operations := outcome(t, start.d, work)
		both := [2]int{}
		for n := range operations {
			for _, kind := range []int{api.FateDrop, api.FateKeep, api.FateTear} {
				got := failedAt(t, start.d, work, n, kind)
				switch {
				case maps.Equal(got, ahead):
					both[0]++
				case maps.Equal(got, behind):
					both[1]++
				default:
					t.Fatalf("%s, the power fails in operation %d: neither the old nor the new pairs", name, n)
				}
			}
		}
		if both[0] == 0 || both[1] == 0 {
			t.Errorf("%s: %v", name, both)
		}
	}
}

// over is a store over a copy of a device, in a transaction, with some work done in it.
func over(t *testing.T, d *device.Device, work func(p *space.Spaces) error) (*device.Device, *kv.Store) {
	t.Helper()
	c, err := device.Open(d.Size(), d.Durable())
	must(t, err)
	s := kv.New(c)
	must(t, s.Open())
	must(t, s.Begin())
	must(t, work(space.New(s)))
	return c, s
}

// outcome is the pairs ahead of some work and behind its Commit, and how many operations that has.
func outcome(t *testing.T, d *device.Device, work func(p *space.Spaces) error) (ahead, behind book, operations int) {
	t.Helper()
	c, s := over(t, d, work)
	must(t, s.Rollback())
	ahead = stored(t, s)
	c, s = over(t, d, work)
	_, was, _ := c.Counts()
	must(t, s.Commit())
	_, now, _ := c.Counts()
	return ahead, stored(t, s), (now-was-1)/8 + 3
}

// failedAt is the pairs that a new store finds, where the power failed in the Commit.
func failedAt(t *testing.T, d *device.Device, work func(p *space.Spaces) error, n, kind int) book {
	t.Helper()
	c, s := over(t, d, work)
	var fates []api.Fate
	for i := range 400 {
		fates = append(fates, api.Fate{Index: i, Kind: kind, Cut: 10})
	}
	c.Arm(n, fates)
	if err := s.Commit(); err != api.ErrDead {
		t.Fatalf("Commit = %v: the power has not failed in operation %d", err, n)
	}
	c.Revive()
	s = kv.New(c)
	must(t, s.Open())
	b := stored(t, s)
	p := space.New(s)
	names, err := p.Names()
	must(t, err)
	if !slices.Equal(names, b.names()) {
		t.Fatalf("Names = %q, want %q", names, b.names())
	}
	for _, name := range names {
		c := call{what: "Scan", name: name, limit: 1000}
		if a := c.of(p); !a.equals(b.scan(c)) {
			t.Fatalf("%v = %v, want %v", c, a, b.scan(c))
		}
	}
	return b
}

// No call of this layer writes to the device: only kv's Commit does.
func TestP16_TheCallsBeginAndEndNoTransaction(t *testing.T) {
	w := crowd(t)
	w.begin()
	txid := w.s.Txid()
	_, writes, syncs := w.d.Counts()
	for _, c := range crowdCalls(w) {
		w.do(c)
	}
	_, w2, s2 := w.d.Counts()
	if w.s.Status() != api.Working || w.s.Txid() != txid || w2 != writes || s2 != syncs {
		t.Errorf("%s, transaction %d, %d sectors written, %d syncs", statusNames[w.s.Status()], w.s.Txid(), w2-writes, s2-syncs)
	}
}
