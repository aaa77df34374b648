package feed_test

import (
	"fmt"
	"maps"
	"math"
	"math/rand"
	"slices"
	"strings"
	"testing"

	"copse/api"
	"copse/device"
	"copse/feed"
	"copse/kv"
)

// wantNoReplica asks for a replica that there can't be.
func wantNoReplica(t *testing.T, what string, s *kv.Store, want error) {
	t.Helper()
	if r, err := feed.New(s); r != nil || err != want {
		t.Errorf("%s: New = %v, %v, want nil, %v", what, r, err, want)
	}
}

func TestP20_4_EveryStatus(t *testing.T) {
	for status, want := range statusErrors() {
		_, s, d := brought(t, status)
		what, was := fmt.Sprint("status ", status), imageOf(d)
		if want != nil {
			wantNoReplica(t, what, s, want)
		} else if r := replica(t, s); r.At() != 1 {
			t.Errorf("%s: at %d", what, r.At())
		}
		if s.Status() != status {
			t.Errorf("%s: then %d", what, s.Status())
		}
		wantUntouched(t, what, d, was)
	}
}

// The own key is not looked at, where the status is told.
func TestP20_4_TheStatusIsAheadOfTheKey(t *testing.T) {
	s, _ := opened(t, 8)
	commit(t, s, own+"=123")
	wantNoReplica(t, "Opened", s, api.ErrCorrupt)
	must(t, s.Begin())
	wantNoReplica(t, "Working", s, api.ErrStatus)
	must(t, s.Close())
	wantNoReplica(t, "Closed", s, api.ErrStatus)
}

func TestP20_4_TheOwnKey(t *testing.T) {
	s, d := opened(t, 8)
	if r := replica(t, s); r.At() != 0 {
		t.Errorf("absent: at %d", r.At())
	}
	commit(t, s, "\xfffeec="+eight(3), own+"\x00="+eight(4), "feed="+eight(5))
	if r := replica(t, s); r.At() != 0 {
		t.Errorf("keys beside it: at %d", r.At())
	}
	for _, n := range []uint64{0, 1, 255, 256, 0x0102030405060708, 1 << 63, math.MaxUint64 - 1, math.MaxUint64} {
		commit(t, s, own+"="+eight(n))
		was := imageOf(d)
		if r := replica(t, s); r.At() != n || r.At() != n {
			t.Errorf("at %d, want %d", r.At(), n)
		}
		wantUntouched(t, "New", d, was)
	}
	for _, value := range []string{"", "\x00", "1", "1234567", "123456789", strings.Repeat("\x00", 16), strings.Repeat("v", 700)} {
		commit(t, s, own+"="+value)
		wantNoReplica(t, fmt.Sprint(len(value), " bytes"), s, api.ErrCorrupt)
		if s.Status() != api.Opened {
			t.Errorf("status %d", s.Status())
		}
	}
}

// The store's own errors, where the key is read.
func TestP20_4_TheStoresErrors(t *testing.T) {
	s, d := opened(t, 8)
	commit(t, s, "a=1")
	must(t, s.Close())
	must(t, s.Open())
	spoil(t, d, 16, 40)
	wantNoReplica(t, "a page that is none", s, api.ErrCorrupt)
	spoil(t, d, 16, 40)
	replica(t, s)
	d.Crash(nil)
	wantNoReplica(t, "a device that is dead", s, api.ErrDead)
	if s.Status() != api.Dead {
		t.Errorf("status %d", s.Status())
	}
	d.Revive()
	wantNoReplica(t, "a store that is dead", s, api.ErrDead)
}

// stand is a replica with its store and its device, and what they must be.
type stand struct {
	t     *testing.T
	s     *kv.Store
	d     *device.Device
	r     *feed.Replica
	at    uint64
	txid  uint64
	pairs book // with the own key
}

func newStand(t *testing.T, pages int) *stand {
	t.Helper()
	s, d := opened(t, pages)
	return &stand{t: t, s: s, d: d, r: replica(t, s), pairs: book{}}
}

// check holds the replica, its store and its device against what they must be.
func (x *stand) check(what string) {
	x.t.Helper()
	if x.r.At() != x.at || x.s.Status() != api.Opened || x.s.Txid() != x.txid {
		x.t.Fatalf("%s: at %d, status %d, transaction %d, want %d, Opened, %d", what, x.r.At(), x.s.Status(), x.s.Txid(), x.at, x.txid)
	}
	if now := held(x.t, x.d); !maps.Equal(now, x.pairs) {
		x.t.Fatalf("%s: the store has %s, want %s", what, show(now), show(x.pairs))
	}
	for k, v := range x.pairs {
		if got, is, err := x.s.Get(k); got != v || !is || err != nil {
			x.t.Fatalf("%s: Get(%s) = %s, %v, %v", what, show(k), show(got), is, err)
		}
	}
	if again := replica(x.t, x.s); again.At() != x.at {
		x.t.Fatalf("%s: a new replica is at %d, want %d", what, again.At(), x.at)
	}
}

// refuse hands in a batch that is not taken: with an error, or nil, if it was taken already. Nothing is written then.
func (x *stand) refuse(what string, b api.Batch, want error) {
	x.t.Helper()
	was := imageOf(x.d)
	if err := x.r.Take(b); err != want {
		x.t.Fatalf("%s: Take(%s) = %v, want %v", what, show(b), err, want)
	}
	wantUntouched(x.t, what, x.d, was)
	x.check(what)
}

// take hands in a batch that is taken, by one transaction.
func (x *stand) take(what string, b api.Batch) {
	x.t.Helper()
	_, _, before := x.d.Counts()
	if err := x.r.Take(b); err != nil {
		x.t.Fatalf("%s: Take(%s) = %v", what, show(b), err)
	}
	if _, _, syncs := x.d.Counts(); syncs != before+2 {
		x.t.Fatalf("%s: %d syncs", what, syncs-before)
	}
	x.pairs = patched(x.pairs, b)
	x.at, x.txid = b.To, x.txid+1
	x.check(what)
}

// patched is a book behind a batch, the own key too.
func patched(b book, batch api.Batch) book {
	b = maps.Clone(b)
	for _, c := range batch.Changes {
		delete(b, c.Key)
		if c.Has {
			b[c.Key] = c.New
		}
	}
	b[own] = eight(batch.To)
	return b
}

// plainTakeFault is points 2 to 5 of P20.5: whether the batch is to be taken, and the error.
func plainTakeFault(at uint64, pairs book, b api.Batch) (bool, error) {
	if err := plainFault(b.From, b.To, b.Changes); err != nil {
		return false, err
	}
	if plainSum(b.From, b.To, b.Changes) != b.Sum {
		return false, api.ErrText
	}
	if b.To <= at {
		return false, nil
	}
	if b.From > at {
		return false, api.ErrShort
	}
	if b.From < at {
		return false, api.ErrOrder
	}
	for _, c := range b.Changes {
		value, there := pairs[c.Key]
		if there != c.Had || there && value != c.Old {
			return false, api.ErrLost
		}
	}
	return true, nil
}

// hand hands in any batch, and holds what becomes of it against the chapter.
func (x *stand) hand(what string, b api.Batch) error {
	x.t.Helper()
	is, err := plainTakeFault(x.at, x.pairs, b)
	if is {
		x.take(what, b)
	} else {
		x.refuse(what, b, err)
	}
	return err
}

func TestP20_5_Examples(t *testing.T) {
	x := newStand(t, 8)
	one, more := sealed(t, 0, 1, has("a", "1")), sealed(t, 1, 3, had("a", "1"), has("b", "3"))
	x.check("new")
	x.refuse("1 to 3", more, api.ErrShort)
	x.take("0 to 1", one)
	x.refuse("0 to 1 again", one, nil)
	x.refuse("0 to 2", sealed(t, 0, 2, has("a", "1")), api.ErrOrder)
	bad := more
	bad.Sum ^= 1
	x.refuse("another sum", bad, api.ErrText)
	x.refuse("a had 9", sealed(t, 1, 2, had("a", "9")), api.ErrLost)
	x.take("1 to 3", more)
	if want := (book{"b": "3", own: eight(3)}); !maps.Equal(x.pairs, want) {
		t.Errorf("%v", x.pairs)
	}
}

// In a status that is not Opened nothing else is told, whatever else is wrong with the batch.
func TestP20_5_EveryStatus(t *testing.T) {
	good := sealed(t, 1, 2, turned("a", "1", "2"))
	wrong := good
	wrong.Sum++
	batches := []api.Batch{{}, good, wrong, sealed(t, 0, 1), sealed(t, 5, 6), sealed(t, 0, 5), sealed(t, 1, 2, has("a", "9")), summed(1, 2, has(own, "1"))}
	for status, want := range statusErrors() {
		if want == nil {
			continue
		}
		r, s, d := brought(t, status)
		was := imageOf(d)
		for i, b := range batches {
			if err := r.Take(b); err != want || r.At() != 1 || s.Status() != status {
				t.Errorf("status %d, batch %d: %v, at %d, status %d", status, i, err, r.At(), s.Status())
			}
		}
		wantUntouched(t, "Take", d, was)
		if status == api.Dead {
			continue
		}
		if status == api.Closed {
			must(t, s.Open())
		} else {
			must(t, s.Rollback())
		}
		if err := r.Take(good); err != nil || r.At() != 2 {
			t.Errorf("from status %d to Opened: %v, at %d", status, err, r.At())
		}
	}
}

// What a transaction has at hand stays there, when a batch is refused for it.
func TestP20_5_ATransactionGoesOn(t *testing.T) {
	r, s, d := brought(t, api.Working)
	must(t, s.Put("b", "7"))
	if err := r.Take(sealed(t, 1, 2, had("a", "1"))); err != api.ErrStatus {
		t.Error(err)
	}
	must(t, s.Commit())
	if now := held(t, d); !maps.Equal(now, book{"a": "1", "b": "7", own: eight(1)}) {
		t.Errorf("%v", now)
	}
}

// ahead is a replica that has taken a batch to 5, with a: 1, b empty and c: 3.
func ahead(t *testing.T, pages int) *stand {
	t.Helper()
	x := newStand(t, pages)
	x.take("0 to 2", sealed(t, 0, 2, has("a", "0"), has("b", "")))
	x.take("2 to 5", sealed(t, 2, 5, turned("a", "0", "1"), has("c", "3")))
	return x
}

// damages is a batch with one part of it changed, in every part.
func damages(b api.Batch) map[string]api.Batch {
	all := map[string]api.Batch{}
	add := func(what string, change func(*api.Batch)) {
		other := b
		other.Changes = slices.Clone(b.Changes)
		change(&other)
		all[what] = other
	}
	for i := range 64 {
		add(fmt.Sprint("bit ", i, " of From"), func(b *api.Batch) { b.From ^= 1 << i })
		add(fmt.Sprint("bit ", i, " of To"), func(b *api.Batch) { b.To ^= 1 << i })
	}
	for i := range 32 {
		add(fmt.Sprint("bit ", i, " of Sum"), func(b *api.Batch) { b.Sum ^= 1 << i })
	}
	add("none of the changes", func(b *api.Batch) { b.Changes = nil })
	add("one more", func(b *api.Batch) { b.Changes = append(b.Changes, has("zz", "1")) })
	for i := range b.Changes {
		at := fmt.Sprint(" of change ", i)
		add("left out,"+at, func(b *api.Batch) { b.Changes = slices.Delete(b.Changes, i, i+1) })
		add("twice,"+at, func(b *api.Batch) { b.Changes = slices.Insert(b.Changes, i, b.Changes[i]) })
		add("moved,"+at, func(b *api.Batch) {
			j := (i + 1) % len(b.Changes)
			b.Changes[i], b.Changes[j] = b.Changes[j], b.Changes[i]
		})
		add("Had"+at, func(b *api.Batch) { b.Changes[i].Had = !b.Changes[i].Had })
		add("Has"+at, func(b *api.Batch) { b.Changes[i].Has = !b.Changes[i].Has })
		add("the whole key"+at, func(b *api.Batch) { b.Changes[i].Key = "" })
		add("the own key"+at, func(b *api.Batch) { b.Changes[i].Key = own })
		for _, end := range []string{"\x00", "x", strings.Repeat("x", 701)} {
			more := fmt.Sprint(len(end), end[:1])
			add("Key"+at+more, func(b *api.Batch) { b.Changes[i].Key += end })
			add("Old"+at+more, func(b *api.Batch) { b.Changes[i].Old += end })
			add("New"+at+more, func(b *api.Batch) { b.Changes[i].New += end })
		}
		add("Old and New"+at, func(b *api.Batch) { b.Changes[i].Old, b.Changes[i].New = b.Changes[i].New, b.Changes[i].Old })
	}
	return all
}

// A batch that is damaged is never taken, wherever; and the right one is, behind it.
func TestP20_5_DamagedBatches(t *testing.T) {
	x, seen := ahead(t, 8), map[error]int{}
	old, good := sealed(t, 0, 2, has("a", "0"), has("b", "")), sealed(t, 5, 6, turned("a", "1", "2"), had("b", ""), has("d", "4"))
	for _, b := range []api.Batch{old, good, sealed(t, 5, 9), sealed(t, 7, 9, had("x", "1"))} {
		for what, bad := range damages(b) {
			if same(bad, b) { // an exchange of one change with itself
				continue
			}
			err := x.hand(what, bad)
			if err == nil || err == api.ErrLost || err == api.ErrShort {
				t.Errorf("%s: %v", what, err)
			}
			seen[err]++
		}
	}
	for _, err := range []error{api.ErrArg, api.ErrOrder, api.ErrKind, api.ErrText} {
		if seen[err] < 3 {
			t.Errorf("%v: %d times", err, seen[err])
		}
	}
	x.take("undamaged", good)
}

// Batches that come twice, late, too early, and that overlap, with the right sum all of them.
func TestP20_5_EveryPlace(t *testing.T) {
	for from := range uint64(9) {
		for to := range uint64(9) {
			x := ahead(t, 8)
			fits, not := changes(turned("a", "1", "2"), had("b", "")), changes(had("x", ""))
			for _, l := range [][]api.Change{not, fits} {
				err := x.hand(fmt.Sprint(from, " to ", to), summed(from, to, l...))
				switch {
				case to <= from && err != api.ErrArg, to > from && to <= 5 && err != nil, from > 5 && to > from && err != api.ErrShort, from < 5 && to > 5 && err != api.ErrOrder:
					t.Errorf("%d to %d: %v", from, to, err)
				}
			}
		}
	}
}

// The greatest transactions.
func TestP20_5_TheEndsOfTheNumbers(t *testing.T) {
	const most = math.MaxUint64
	x := newStand(t, 8)
	x.refuse("too early", sealed(t, most-1, most), api.ErrShort)
	x.take("almost all", sealed(t, 0, most-1, has("a", "1")))
	x.refuse("it was", sealed(t, most-2, most-1), nil)
	x.refuse("it overlaps", sealed(t, 0, most), api.ErrOrder)
	x.refuse("no batch", summed(most, most), api.ErrArg)
	x.refuse("no batch", summed(most, 0), api.ErrArg)
	x.take("the last", sealed(t, most-1, most, had("a", "1")))
	x.refuse("it was", sealed(t, 0, most), nil)
	x.refuse("it was", sealed(t, most-1, most, has("x", "1")), nil)
}

func TestP20_5_ChangesThatDoNotAgree(t *testing.T) {
	x := ahead(t, 8)
	good := changes(turned("a", "1", "2"), had("b", ""), turned("c", "3", ""), has("d", ""))
	for i, wrong := range [][]api.Change{
		changes(had("a", "9"), had("a", ""), had("a", "11"), turned("a", "2", "1"), has("a", "1"), has("a", "")),
		changes(had("b", "1"), turned("b", "1", ""), has("b", ""), has("b", "1")),
		changes(turned("c", "", "3"), turned("c", "33", ""), had("c", "3\x00"), has("c", "4")),
		changes(had("d", ""), had("d", "4"), turned("d", "", "1"), turned("d", "1", "")),
	} {
		for _, c := range wrong {
			x.refuse("alone", sealed(t, 5, 6, c), api.ErrLost)
			l := slices.Clone(good)
			l[i] = c
			x.refuse("among others", sealed(t, 5, 6, l...), api.ErrLost)
		}
	}
	x.take("all agree", sealed(t, 5, 6, good...))
	x.refuse("as it was", sealed(t, 6, 7, turned("a", "1", "2")), api.ErrLost)
}

// What somebody else has put into the store is held against the changes, too.
func TestP20_5_TheStoreAsItIsNow(t *testing.T) {
	x := ahead(t, 8)
	commit(t, x.s, "c=other", "e=5")
	x.pairs["c"], x.pairs["e"], x.txid = "other", "5", x.txid+1
	x.refuse("c", sealed(t, 5, 6, had("c", "3")), api.ErrLost)
	x.refuse("e", sealed(t, 5, 6, has("e", "5")), api.ErrLost)
	x.take("both", sealed(t, 5, 6, had("c", "other"), turned("e", "5", "6")))
}

func TestP20_5_IdleBatches(t *testing.T) {
	x := newStand(t, 8)
	x.take("none", sealed(t, 0, 1))
	x.take("none", sealed(t, 1, 700))
	x.refuse("none again", sealed(t, 1, 700), nil)
	if !maps.Equal(x.pairs, book{own: eight(700)}) {
		t.Errorf("%v", x.pairs)
	}
}

// A key that is taken away and an empty value are two things.
func TestP20_5_PutOrDelete(t *testing.T) {
	x := newStand(t, 8)
	x.take("empty", sealed(t, 0, 1, has("a", ""), has("b", "1")))
	x.take("turned", sealed(t, 1, 2, turned("a", "", "1"), turned("b", "1", "")))
	x.take("away", sealed(t, 2, 3, had("a", "1"), had("b", "")))
	if !maps.Equal(x.pairs, book{own: eight(3)}) {
		t.Errorf("%v", x.pairs)
	}
}

// Two points that hold at once: the first of them is told. Each row is one fault, ahead of those of the rows below it.
func TestP20_5_TheOrderOfThePoints(t *testing.T) {
	faults := []struct {
		what string
		spin func(b *api.Batch)
		err  error
	}{
		{"a change that may not be", func(b *api.Batch) { b.Changes = append(b.Changes, api.Change{Key: "\xff\xff"}) }, api.ErrArg},
		{"keys that do not rise", func(b *api.Batch) { b.Changes = append(b.Changes, has("a", "1")) }, api.ErrOrder},
		{"the own key", func(b *api.Batch) { b.Changes = slices.Insert(b.Changes, 1, has(own, "1")) }, api.ErrKind},
		{"another sum", func(b *api.Batch) { b.Sum++ }, api.ErrText},
		{"it was taken", func(b *api.Batch) { b.From, b.To = 3, 5 }, nil},
		{"one is missing", func(b *api.Batch) { b.From, b.To = 6, 9 }, api.ErrShort},
		{"it overlaps", func(b *api.Batch) { b.From, b.To = 4, 9 }, api.ErrOrder},
		{"it does not agree", func(b *api.Batch) { b.Changes[0].Old = "9" }, api.ErrLost},
		{"no room", func(b *api.Batch) {
			for i := range 40 {
				b.Changes = append(b.Changes, has(fmt.Sprintf("\xff\xff\xff%02d", i), strings.Repeat("v", 700)))
			}
		}, api.ErrFull},
	}
	for first, f := range faults {
		for _, g := range faults[first:] {
			x := ahead(t, 8)
			b := api.Batch{From: 5, To: 9, Changes: changes(turned("a", "1", "2"), has("\xffg", ""))}
			g.spin(&b)
			if f.what != g.what {
				f.spin(&b)
			}
			sum := plainSum(b.From, b.To, b.Changes)
			if f.what == "another sum" || g.what == "another sum" {
				sum++
			}
			b.Sum = sum
			x.refuse(f.what+" and "+g.what, b, f.err)
		}
	}
}

// No room: nothing is written, the store is open as it was, and a smaller batch has room.
func TestP20_5_Full(t *testing.T) {
	for _, pages := range []int{4, 6, 12} {
		x := newStand(t, pages)
		x.take("one", sealed(t, 0, 1, has("a", "1")))
		var l []api.Change
		for i := range 8 * pages {
			l = append(l, has(fmt.Sprintf("k%03d", i), strings.Repeat("v", 700)))
		}
		large := sealed(t, 1, 3, append(changes(had("a", "1")), l...)...)
		for range 3 {
			x.refuse("no room", large, api.ErrFull)
		}
		x.take("a part", sealed(t, 1, 2, append(changes(had("a", "1")), l[:2]...)...))
		x.refuse("it overlaps now", large, api.ErrOrder)
	}
}

// No number for a further transaction, with room and without.
func TestP20_5_Txid(t *testing.T) {
	const most = math.MaxUint64
	s, d := laidAt(t, 8, most-1, book{"a": "1", own: eight(4)})
	x := &stand{t: t, s: s, d: d, r: replica(t, s), at: 4, txid: most - 1, pairs: book{"a": "1", own: eight(4)}}
	x.take("the last", sealed(t, 4, 5, turned("a", "1", "2")))
	for range 3 {
		x.refuse("one more", sealed(t, 5, 6, turned("a", "2", "3")), api.ErrTxid)
		x.refuse("one without a change", sealed(t, 5, 6), api.ErrTxid)
	}
	x.refuse("it was taken", sealed(t, 4, 5), nil)
	x.refuse("it does not agree", sealed(t, 5, 6, has("a", "1")), api.ErrLost)
}

// Pages that somebody else has spoilt behind an open store: the store's error, and no transaction is left.
func TestP20_5_TheStoresErrors(t *testing.T) {
	b := numbered(40, 300)
	b[own] = eight(1)
	for sector := 16; sector < 24*8; sector += 8 {
		s, d := opened(t, 30)
		write(t, s, book{}, b)
		must(t, s.Close())
		must(t, s.Open())
		x := &stand{t: t, s: s, d: d, r: replica(t, s), at: 1, txid: 1, pairs: b}
		batch := sealed(t, 1, 2, had("k0001", b["k0001"]), turned("k0020", b["k0020"], "2"), had("k0030", b["k0030"]))
		spoil(t, d, sector, 40)
		err := x.r.Take(batch)
		if err != nil && (err != api.ErrCorrupt || x.r.At() != 1 || s.Status() != api.Opened || s.Txid() != 1) {
			t.Errorf("sector %d: %v, at %d, status %d", sector, err, x.r.At(), s.Status())
		}
		if err == nil {
			continue
		}
		spoil(t, d, sector, 40)
		x.check("mended")
		x.take("mended", batch)
	}
}

// byHand is what point 6 says, call by call.
func byHand(t *testing.T, s *kv.Store, b api.Batch) {
	t.Helper()
	must(t, s.Begin())
	for _, c := range b.Changes {
		if c.Has {
			must(t, s.Put(c.Key, c.New))
			continue
		}
		_, err := s.Delete(c.Key)
		must(t, err)
	}
	must(t, s.Put(own, eight(b.To)))
	must(t, s.Commit())
}

// Not a byte on the device is another one than by the calls of the store that the chapter names, in their order.
func TestP20_5_TheStoresCalls(t *testing.T) {
	r := rand.New(rand.NewSource(2052))
	x := newStand(t, 200)
	s, d := opened(t, 200)
	at := book{}
	for i := range uint64(30) {
		now := numbered(r.Intn(200), 50+r.Intn(600))
		for k := range now {
			if r.Intn(3) == 0 {
				delete(now, k)
				now["\xff\xff"+k] = "behind the own key"
			}
		}
		b := sealed(t, i, i+1, plainChanges(at, now)...)
		x.take("on", b)
		byHand(t, s, b)
		if _, written, syncs := d.Counts(); !slices.Equal(x.d.Durable(), d.Durable()) || written != imageOf(x.d).written || syncs != imageOf(x.d).syncs {
			t.Fatalf("batch %d: the device is another one", i)
		}
		at = now
	}
}

// Any batches, in any order, most of them not the next one.
func TestP20_5_AnyBatches(t *testing.T) {
	r, seen := rand.New(rand.NewSource(205)), map[error]int{}
	keys := append(oddKeys(), own)
	for range 40 {
		x := newStand(t, 40)
		for range 120 {
			seen[x.hand("any", anyBatch(r, x, keys))]++
		}
	}
	for _, err := range []error{nil, api.ErrArg, api.ErrOrder, api.ErrKind, api.ErrText, api.ErrShort, api.ErrLost} {
		if seen[err] < 50 {
			t.Errorf("%v: %d times", err, seen[err])
		}
	}
}

// anyBatch is what leads on from the replica's pairs, or something that is a little beside it.
func anyBatch(r *rand.Rand, x *stand, keys []string) api.Batch {
	from := x.at
	if r.Intn(4) == 0 {
		from += uint64(r.Intn(5)) - 2
	}
	old := x.pairs.without()
	now := stirred(r, old, keys)
	if r.Intn(3) > 0 {
		delete(now, own)
	}
	if r.Intn(5) == 0 {
		old = stirred(r, old, keys[:8])
	}
	b := summed(from, from+uint64(r.Intn(8)), plainChanges(old, now)...)
	if r.Intn(5) == 0 {
		all := slices.Sorted(maps.Keys(damages(b)))
		b = damages(b)[all[r.Intn(len(all))]]
	}
	if r.Intn(8) > 0 {
		b.Sum = plainSum(b.From, b.To, b.Changes)
	}
	return b
}
