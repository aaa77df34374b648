package feed_test

import (
	"fmt"
	"maps"
	"math/rand"
	"slices"
	"testing"

	"copse/api"
	"copse/device"
	"copse/feed"
	"copse/kv"
)

// fatesOf is some ways in which so many pending writes may end: all lost, all there, each alone there or torn, and some at random.
func fatesOf(r *rand.Rand, pending int) [][]api.Fate {
	var keep, tear []api.Fate
	all := [][]api.Fate{nil}
	for i := range pending {
		keep = append(keep, api.Fate{Index: i, Kind: api.FateKeep})
		tear = append(tear, api.Fate{Index: i, Kind: api.FateTear, Cut: r.Intn(513), Junk: "junk"})
	}
	all = append(all, keep, tear)
	for _, cut := range []int{0, 8, 16, 24, 28, 511, 512} {
		all = append(all, []api.Fate{{Index: max(0, pending-1), Kind: api.FateTear, Cut: cut}})
	}
	for range 4 {
		var l []api.Fate
		for i := range pending {
			l = append(l, api.Fate{Index: i, Kind: 1 + r.Intn(3), Cut: r.Intn(513), Junk: string(rune('a' + r.Intn(26)))})
		}
		r.Shuffle(len(l), func(i, j int) { l[i], l[j] = l[j], l[i] })
		all = append(all, l)
	}
	return all
}

// operations is how many operations of the device a Take of this batch has.
func operations(t *testing.T, d *device.Device, b api.Batch) int {
	t.Helper()
	for n := 0; ; n++ {
		other := clone(t, d)
		s := kv.New(other)
		must(t, s.Open())
		r := replica(t, s)
		other.Arm(n, nil)
		if err := r.Take(b); err == nil {
			return n
		}
	}
}

// reopened is a new replica over a new store on the device, revived.
func reopened(t *testing.T, d *device.Device) (*feed.Replica, *kv.Store) {
	t.Helper()
	d.Revive()
	s := kv.New(d)
	must(t, s.Open())
	return replica(t, s), s
}

// failed lets the power fail in the operation k of a Take: whether the batch was taken all the same.
func failed(t *testing.T, what string, was *device.Device, b api.Batch, k int, fates []api.Fate) bool {
	t.Helper()
	d := clone(t, was)
	s := kv.New(d)
	must(t, s.Open())
	r := replica(t, s)
	at, txid, old := r.At(), s.Txid(), held(t, d)
	d.Arm(k, fates)
	for range 2 {
		if err := r.Take(b); err != api.ErrDead || s.Status() != api.Dead || r.At() != at {
			t.Fatalf("%s: %v, status %d, at %d", what, err, s.Status(), r.At())
		}
	}
	again, store := reopened(t, d)
	if err := r.Take(b); err != api.ErrDead {
		t.Fatalf("%s: the old replica: %v", what, err)
	}
	now, taken := held(t, d), again.At() == b.To
	switch {
	case taken && (store.Txid() != txid+1 || !maps.Equal(now, patched(old, b))):
		t.Fatalf("%s: taken, transaction %d, %s", what, store.Txid(), show(now))
	case !taken && (again.At() != at || store.Txid() != txid || !maps.Equal(now, old)):
		t.Fatalf("%s: at %d, transaction %d, %s", what, again.At(), store.Txid(), show(now))
	}
	must(t, again.Take(b))
	if again.At() != b.To || store.Txid() != txid+1 || !maps.Equal(held(t, d), patched(old, b)) {
		t.Fatalf("%s: taken again: at %d, transaction %d", what, again.At(), store.Txid())
	}
	return taken
}

func TestP20_5_ThePowerFailsInEveryOperation(t *testing.T) {
	rnd, seen := rand.New(rand.NewSource(2051)), map[string]int{}
	small, large := ahead(t, 8), newStand(t, 60)
	large.take("many", sealed(t, 0, 5, plainChanges(book{}, numbered(120, 300))...))
	changed := numbered(120, 300)
	changed["k0001"], changed["k0050"], changed["l"] = "", "other", "new"
	delete(changed, "k0070")
	for _, c := range []struct {
		name  string
		x     *stand
		batch api.Batch
	}{
		{"into an empty store", newStand(t, 8), sealed(t, 0, 1, has("a", "1"), has("b", "2"))},
		{"without a change", newStand(t, 8), sealed(t, 0, 9)},
		{"small", small, sealed(t, 5, 7, turned("a", "1", "2"), had("b", ""), has("d", "4"))},
		{"of many", large, sealed(t, 5, 6, plainChanges(numbered(120, 300), changed)...)},
	} {
		n := operations(t, c.x.d, c.batch)
		if n < 4 {
			t.Fatalf("%s: %d operations", c.name, n)
		}
		for k := range n {
			for i, fates := range fatesOf(rnd, 8*min(k+1, n-3)) {
				taken := failed(t, fmt.Sprintf("%s: operation %d of %d, fates %d", c.name, k, n, i), c.x.d, c.batch, k, fates)
				seen[fmt.Sprint(n-k, taken)]++
				if k < n-2 && taken || k == n-1 && !taken {
					t.Errorf("%s: operation %d of %d: taken: %v", c.name, k, n, taken)
				}
			}
		}
	}
	for _, kind := range []string{"4 false", "3 false", "2 false", "2 true", "1 true"} {
		if seen[kind] < 4 {
			t.Errorf("the operation from the end, and whether it was taken: %s: %d times", kind, seen[kind])
		}
	}
}

// The power fails between the calls: a Take that has to ask the store is told so, and nothing is lost.
func TestP20_5_ThePowerFailsBetween(t *testing.T) {
	for _, b := range []api.Batch{sealed(t, 5, 6), sealed(t, 5, 6, turned("a", "1", "2")), sealed(t, 5, 6, had("x", "1"))} {
		x := ahead(t, 8)
		x.d.Crash(nil)
		if err := x.r.Take(b); err != api.ErrDead || x.s.Status() != api.Dead || x.r.At() != 5 {
			t.Errorf("%v, status %d, at %d", err, x.s.Status(), x.r.At())
		}
		x.r, x.s = reopened(t, x.d)
		x.check("revived")
		x.hand("revived", b)
	}
	x := ahead(t, 8)
	x.d.Crash(nil)
	bad := sealed(t, 5, 6)
	bad.Sum++
	for _, c := range []struct {
		b   api.Batch
		err error
	}{{bad, api.ErrText}, {sealed(t, 0, 5), nil}, {sealed(t, 6, 7), api.ErrShort}, {sealed(t, 0, 6), api.ErrOrder}} {
		if err := x.r.Take(c.b); err != c.err || x.s.Status() != api.Opened {
			t.Errorf("a store that has not noticed: Take(%v) = %v, status %d, want %v", c.b, err, x.s.Status(), c.err)
		}
	}
}

// trail is what a source's store had at each of its transactions, and the batches of a source that was followed from 0 on.
type trail struct {
	states  []book
	batches []api.Batch
}

// newTrail lets a store be changed so many times, with a batch behind one or several commits.
func newTrail(t *testing.T, r *rand.Rand, commits int, keys []string) trail {
	t.Helper()
	s, d := opened(t, 120)
	f := follow(t, d)
	l := trail{states: []book{{}}}
	for i := range commits {
		now := stirred(r, l.states[i], keys)
		write(t, s, l.states[i], now)
		l.states = append(l.states, now)
		if r.Intn(3) > 0 || i == commits-1 {
			l.batches = append(l.batches, next(t, f))
		}
	}
	return l
}

// follower is a replica whose power fails now and then, and which is made anew then.
type follower struct {
	t       *testing.T
	d       *device.Device
	r       *feed.Replica
	s       *kv.Store
	handed  trail
	tally   map[string]int
	between bool // the power may fail
}

func newFollower(t *testing.T, l trail, tally map[string]int) *follower {
	t.Helper()
	s, d := opened(t, 120)
	return &follower{t: t, d: d, r: replica(t, s), s: s, handed: l, tally: tally, between: true}
}

// wantAState is P20.6: the pairs are those that the source's store had at the transaction At.
func (f *follower) wantAState(what string) {
	f.t.Helper()
	if now := held(f.t, f.d); !maps.Equal(now.without(), f.handed.states[f.r.At()].without()) {
		f.t.Fatalf("%s: at %d: %s, want %s", what, f.r.At(), show(now), show(f.handed.states[f.r.At()]))
	}
}

// hand hands a batch in, the power failing in it or not.
func (f *follower) hand(r *rand.Rand, b api.Batch) {
	f.t.Helper()
	if f.between && r.Intn(4) == 0 {
		all := fatesOf(r, 24)
		f.d.Arm(r.Intn(7), all[r.Intn(len(all))])
	}
	err := f.r.Take(b)
	f.tally[fmt.Sprint(err)]++
	if err != api.ErrDead {
		f.wantAState("alive")
		return
	}
	at := f.r.At()
	f.r, f.s = reopened(f.t, f.d)
	f.tally[fmt.Sprint("dead, taken: ", f.r.At() == b.To)]++
	if f.r.At() != at && f.r.At() != b.To {
		f.t.Fatalf("at %d, then %d, by a batch to %d", at, f.r.At(), b.To)
	}
	f.wantAState("behind a failure")
}

// anyOf is one of the batches, as it is or damaged; the next ones come more often.
func (f *follower) anyOf(r *rand.Rand) api.Batch {
	b := f.handed.batches[r.Intn(len(f.handed.batches))]
	if i := slices.IndexFunc(f.handed.batches, func(b api.Batch) bool { return b.From >= f.r.At() }); i >= 0 && r.Intn(3) > 0 {
		b = f.handed.batches[i]
	}
	if r.Intn(4) > 0 {
		return b
	}
	all := damages(b)
	names := slices.Sorted(maps.Keys(all))
	bad := all[names[r.Intn(len(names))]]
	if !same(bad, b) {
		f.tally["damaged"]++
	}
	return bad
}

// takeTheRest is P20.7: all from At on, in order.
func (f *follower) takeTheRest() {
	f.t.Helper()
	f.between = false
	f.d, _ = device.Open(f.d.Size(), f.d.Durable()) // no arms are left on it
	f.r, f.s = reopened(f.t, f.d)
	for _, b := range f.handed.batches {
		if b.From < f.r.At() {
			continue
		}
		if err := f.r.Take(b); err != nil || f.r.At() != b.To {
			f.t.Fatalf("in order: %d to %d: %v, at %d", b.From, b.To, err, f.r.At())
		}
		f.wantAState("in order")
	}
	last := f.handed.states[len(f.handed.states)-1]
	if now := held(f.t, f.d); !maps.Equal(now.without(), last.without()) {
		f.t.Fatalf("at the end: %s, want %s", show(now), show(last))
	}
}

// Batches in any order, some never, some often, some damaged, with failures of the power; then all that are left.
func TestP20_6_P20_7_WhateverComes(t *testing.T) {
	r, tally := rand.New(rand.NewSource(206)), map[string]int{}
	keys := append(oddKeys(), own)
	for i := range 40 {
		keys = append(keys, fmt.Sprintf("k%02d", i))
	}
	for range 12 {
		l := newTrail(t, r, 25, keys)
		for range 2 {
			f := newFollower(t, l, tally)
			f.wantAState("new")
			for range 20 + r.Intn(60) {
				f.hand(r, f.anyOf(r))
			}
			f.takeTheRest()
		}
	}
	for _, kind := range []string{fmt.Sprint(nil), api.ErrShort.Error(), api.ErrText.Error(), api.ErrArg.Error(), "dead, taken: true", "dead, taken: false", "damaged"} {
		if tally[kind] < 10 {
			t.Errorf("%s: %d times", kind, tally[kind])
		}
	}
}

// Where the power fails at every operation in turn, the same batch is handed in until it is taken, and once only it is made.
func TestP20_6_EveryBatchWithFailures(t *testing.T) {
	r := rand.New(rand.NewSource(2061))
	l := newTrail(t, r, 20, oddKeys())
	f := newFollower(t, l, map[string]int{})
	for _, b := range l.batches {
		for k := 0; f.r.At() != b.To; k++ {
			all := fatesOf(r, 16)
			f.d.Arm(k, all[r.Intn(len(all))])
			err := f.r.Take(b)
			if err != nil && err != api.ErrDead {
				t.Fatal(err)
			}
			if err == api.ErrDead {
				f.r, f.s = reopened(t, f.d)
			}
			f.wantAState("by and by")
		}
		f.d, _ = device.Open(f.d.Size(), f.d.Durable())
		f.r, f.s = reopened(t, f.d)
		must(t, f.r.Take(b))
		f.wantAState("again")
	}
	if f.s.Txid() != uint64(len(l.batches)) {
		t.Errorf("transaction %d by %d batches", f.s.Txid(), len(l.batches))
	}
}

// chain is a store, and replicas one behind the other, each following the one ahead of it.
type chain struct {
	devices  []*device.Device
	sources  []*feed.Source
	replicas []*feed.Replica
}

func newChain(t *testing.T, d *device.Device, length int) *chain {
	t.Helper()
	c := &chain{devices: []*device.Device{d}}
	for i := range length {
		s, d := opened(t, 120)
		c.sources = append(c.sources, follow(t, c.devices[i]))
		c.devices = append(c.devices, d)
		c.replicas = append(c.replicas, replica(t, s))
	}
	return c
}

// pass hands on what the store i has become, if it has become anything.
func (c *chain) pass(t *testing.T, i int) {
	t.Helper()
	b, is, err := c.sources[i].Batch()
	must(t, err)
	if !is {
		return
	}
	if slices.ContainsFunc(b.Changes, func(c api.Change) bool { return c.Key == own }) {
		t.Fatal("the own key is told")
	}
	must(t, c.replicas[i].Take(b))
	if c.replicas[i].At() != b.To {
		t.Fatalf("at %d, not %d", c.replicas[i].At(), b.To)
	}
}

func TestP20_8_AReplicaIsFollowed(t *testing.T) {
	r := rand.New(rand.NewSource(208))
	s, d := opened(t, 120)
	c, at, states := newChain(t, d, 3), book{}, []book{{}}
	for range 60 {
		now := stirred(r, at, oddKeys())
		write(t, s, at, now)
		at, states = now, append(states, now)
		for i := range c.sources {
			if r.Intn(2) == 0 {
				c.pass(t, i)
			}
			if b := held(t, c.devices[i+1]).without(); !slices.ContainsFunc(states, func(x book) bool { return maps.Equal(b, x) }) {
				t.Fatalf("replica %d has a state that was not", i)
			}
		}
	}
	for i := range c.sources {
		c.pass(t, i)
		if b := held(t, c.devices[i+1]); !maps.Equal(b.without(), at) || b[own] != eight(c.replicas[i].At()) {
			t.Errorf("replica %d at the end: %s, want %s", i, show(b), show(at))
		}
	}
}

// A source over a replica's store tells the pairs, and nothing of a batch that changed the own key alone.
func TestP20_8_TheOwnKeyIsNotTold(t *testing.T) {
	x := newStand(t, 8)
	f := follow(t, x.d)
	x.take("idle", sealed(t, 0, 3))
	wantBatch(t, "idle", f, 0, 1, nil)
	x.take("a pair", sealed(t, 3, 4, has("a", "1"), has("\xff\xff", "2")))
	wantBatch(t, "a pair", f, 1, 2, changes(has("a", "1"), has("\xff\xff", "2")))
	late := follow(t, x.d)
	x.take("away", sealed(t, 4, 9, had("a", "1")))
	wantBatch(t, "away", late, 2, 3, changes(had("a", "1")))
	wantBatch(t, "away", f, 2, 3, changes(had("a", "1")))
}
