package feed_test

import (
	"maps"
	"slices"
	"strings"
	"testing"
	"unsafe"

	"copse/api"
	"copse/feed"
	"copse/kv"
)

// memory is texts that can be written over.
type memory struct{ all [][]byte }

func (m *memory) text(s string) string {
	if s == "" {
		return ""
	}
	p := []byte(s)
	m.all = append(m.all, p)
	return unsafe.String(&p[0], len(p))
}

func (m *memory) scrawl() {
	for _, p := range m.all {
		for i := range p {
			p[i] = '#'
		}
	}
}

// changes is a list in memory of its own, with something behind its end.
func (m *memory) changes(l []api.Change) []api.Change {
	var wide []api.Change
	for _, c := range append(slices.Clone(l), has("behind", "1"), had("a", "9"), api.Change{}) {
		c.Key, c.Old, c.New = m.text(c.Key), m.text(c.Old), m.text(c.New)
		wide = append(wide, c)
	}
	return wide[:len(l)]
}

// whole is a list with all that lies in its room, in memory of its own.
func whole(l []api.Change) []api.Change {
	var all []api.Change
	for _, c := range l[:cap(l)] {
		c.Key, c.Old, c.New = strings.Clone(c.Key), strings.Clone(c.Old), strings.Clone(c.New)
		all = append(all, c)
	}
	return all
}

// fill writes over a list and the room behind it.
func fill(l []api.Change) {
	wide := l[:cap(l)]
	for i := range wide {
		wide[i] = has("scrawl", "scrawl")
	}
}

func someLists() [][]api.Change {
	return [][]api.Change{
		nil,
		changes(has("a", "1")),
		changes(had("a", "long enough to be seen"), turned("b", "1", "2"), has("c", "")),
		changes(turned("a", "1", "1")),
		changes(has("b", "1"), has("a", "1")),
		changes(has("a", "1"), has(own, "1")),
	}
}

func TestP20_9_Seal(t *testing.T) {
	for _, l := range someLists() {
		for _, to := range []uint64{3, 8} {
			want, wantErr := summed(3, to, slices.Clone(l)...), plainFault(3, to, l)
			if wantErr != nil {
				want = api.Batch{}
			}
			var m memory
			loose := m.changes(l)
			before := whole(loose)
			got, err := feed.Seal(3, to, loose)
			again, errAgain := feed.Seal(3, to, loose)
			if !slices.Equal(whole(loose), before) {
				t.Errorf("%s: what was handed in has changed", show(l))
			}
			fill(loose)
			m.scrawl()
			_ = append(got.Changes, has("more", "1"))
			fill(got.Changes[len(got.Changes):])
			if !same(got, want) || !same(again, want) || err != wantErr || errAgain != wantErr {
				t.Errorf("%s: %s, %v, again %s, %v", show(l), show(got), err, show(again), errAgain)
			}
			fill(got.Changes)
			if !same(again, want) {
				t.Errorf("%s: two answers share memory", show(l))
			}
			if later, err := feed.Seal(3, to, l); !same(later, want) || err != wantErr {
				t.Errorf("%s: asked later: %s, %v", show(l), show(later), err)
			}
		}
	}
}

// What becomes of a batch that was answered is nothing to the source, nor to another one.
func TestP20_9_Batch(t *testing.T) {
	s, d := opened(t, 60)
	one, other := follow(t, d), follow(t, d)
	at := book{}
	for i, now := range []book{numbered(50, 100), numbered(40, 100), {}, {"a": "1"}, {"a": "2", "b": ""}} {
		write(t, s, at, now)
		want := summed(uint64(i), uint64(i)+1, plainChanges(at, now)...)
		got, twin := next(t, one), next(t, other)
		_ = append(got.Changes, has("more", "1"))
		fill(got.Changes)
		if !same(twin, want) {
			t.Errorf("transaction %d: %s, want %s", i+1, show(twin), show(want))
		}
		at = now
	}
}

// A source keeps nothing of the store but what lies on the device.
func TestP20_9_FollowKeepsTheDeviceAlone(t *testing.T) {
	s, d := opened(t, 8)
	commit(t, s, "a=1")
	f := follow(t, d)
	must(t, s.Close())
	other := kv.New(d)
	must(t, other.Open())
	commit(t, other, "a=2")
	wantBatch(t, "by another store", f, 1, 2, changes(turned("a", "1", "2")))
}

func TestP20_9_Take(t *testing.T) {
	for _, c := range []struct {
		l   []api.Change
		err error
	}{
		{changes(turned("a", "1", "a longer value"), has("another key", "x"), had("b", ""), has("zz", "")), nil},
		{nil, nil},
		{changes(had("a", "1"), had("c", "9")), api.ErrLost},
		{changes(had("b", ""), had("a", "1")), api.ErrOrder},
		{changes(has("d", ""), api.Change{Key: "e"}), api.ErrArg},
		{changes(has(own, "")), api.ErrKind},
	} {
		x := ahead(t, 8)
		want := maps.Clone(x.pairs)
		if c.err == nil {
			want = patched(want, summed(5, 6, c.l...))
		}
		var m memory
		b := summed(5, 6, m.changes(c.l)...)
		before := whole(b.Changes)
		for i := range 3 {
			if err := x.r.Take(b); err != c.err {
				t.Errorf("Take(%s): %v, time %d", show(c.l), err, i)
			}
		}
		if !slices.Equal(whole(b.Changes), before) {
			t.Errorf("Take(%s) has changed its changes, or what lies behind them", show(c.l))
		}
		fill(b.Changes)
		m.scrawl()
		for key, value := range want {
			if got, is, err := x.s.Get(key); got != value || !is || err != nil {
				t.Errorf("Get(%q) = %q, %v, %v", key, got, is, err)
			}
		}
		if now := held(t, x.d); !maps.Equal(now, want) {
			t.Errorf("the store has %s, want %s", show(now), show(want))
		}
		commit(t, x.s, "later=1")
		want["later"] = "1"
		if now := held(t, x.d); !maps.Equal(now, want) {
			t.Errorf("then the store has %s, want %s", show(now), show(want))
		}
	}
}

// The same calls have the same answers, and the same bytes on the device (P0.2).
func TestP20_9_AskedTwice(t *testing.T) {
	var images []image
	for range 2 {
		s, d := opened(t, 60)
		f, x, at := follow(t, d), newStand(t, 60), book{}
		for _, now := range []book{numbered(60, 200), numbered(30, 300), {"a": "1"}} {
			write(t, s, at, now)
			x.take("on", next(t, f))
			at = now
		}
		images = append(images, imageOf(x.d))
	}
	if !slices.Equal(images[0].durable, images[1].durable) || images[0].written != images[1].written {
		t.Error("two runs are not the same")
	}
}
