package pager_test

import (
	"fmt"
	"math"
	"math/rand"
	"slices"
	"strings"
	"testing"

	"copse/api"
	"copse/device"
	"copse/meta"
	"copse/pager"
	"copse/tree"
	"copse/walk"
)

func wantSays(t *testing.T, p *pager.Pager, m api.Meta, free int) {
	t.Helper()
	if p.Meta() != m || p.Free() != free {
		t.Errorf("the pager says %v, %d free, want %v, %d", p.Meta(), p.Free(), m, free)
	}
}

func wantCommit(t *testing.T, p *pager.Pager, want error, changes ...change) {
	t.Helper()
	r := p.Tree()
	book{}.apply(t, r, changes)
	if err := p.Commit(r); err != want {
		t.Fatalf("Commit: %v, want %v", err, want)
	}
}

func TestExamples(t *testing.T) {
	if err := pager.Format(device.New(31)); err != api.ErrArg {
		t.Errorf("Format of 31 sectors: %v", err)
	}
	if p, err := pager.Boot(device.New(80)); p != nil || err != api.ErrCorrupt {
		t.Errorf("Boot of zeros: %v, %v", p, err)
	}
	d, p := formatted(t, 80)
	wantSays(t, p, api.Meta{Pages: 10}, 8)
	wantCommit(t, p, nil, change{key: "a", value: "1"})
	wantSays(t, p, api.Meta{Pages: 10, Root: 2, Txid: 1}, 7)
	var numbers []int
	for _, s := range d.Durable() {
		numbers = append(numbers, s.Index)
	}
	if !slices.Contains(numbers, 16) || !slices.Contains(numbers, 8) {
		t.Errorf("the sectors %v are not zero", numbers)
	}
	wantCommit(t, p, nil, change{key: "b", value: "2"})
	wantSays(t, p, api.Meta{Pages: 10, Root: 3, Txid: 2}, 7)
	wantCommit(t, p, nil)
	wantSays(t, p, api.Meta{Pages: 10, Root: 3, Txid: 3}, 7)
	wantCommit(t, p, nil, change{key: "a", gone: true}, change{key: "b", gone: true})
	wantSays(t, p, api.Meta{Pages: 10, Txid: 4}, 8)
	d.Arm(1, nil)
	wantCommit(t, p, api.ErrDead, change{key: "a", value: "3"})
	d.Revive()
	p = boot(t, d)
	wantSays(t, p, api.Meta{Pages: 10, Txid: 4}, 8)
	d.Arm(2, []api.Fate{{Index: 0, Kind: api.FateKeep}})
	wantCommit(t, p, api.ErrDead, change{key: "a", value: "3"})
	d.Revive()
	wantSays(t, boot(t, d), api.Meta{Pages: 10, Root: 2, Txid: 5}, 7)
	d = device.New(80)
	must(t, meta.Store(d, api.Meta{Pages: 10, Txid: 18446744073709551615}))
	wantCommit(t, boot(t, d), api.ErrTxid)
}

func TestP13_1_HowManyPages(t *testing.T) {
	for _, n := range []int{0, 1, 7, 8, 9, 16, 24, 31} {
		for _, dead := range []bool{false, true} {
			d := device.New(n)
			if dead {
				d.Crash(nil)
			}
			if err := pager.Format(d); err != api.ErrArg {
				t.Errorf("Format of %d sectors, dead %v: %v", n, dead, err)
			}
			if counts(d) != [3]int{} {
				t.Errorf("Format of %d sectors has touched the device: %v", n, d)
			}
		}
	}
	for _, n := range []int{32, 33, 39, 40, 47, 8 * 1000, 8*1048576 - 1, 8 * 1048576, 8388615, 9000000} {
		d, p := formatted(t, n)
		wantSays(t, p, api.Meta{Pages: d.Size() / 8}, d.Size()/8-2)
		wantHeld(t, "formatted", d, api.Meta{Pages: d.Size() / 8}, nil)
		if c := counts(d); c[1] != 3 || c[2] != 3 {
			t.Errorf("Format of %d sectors wrote %d, and synced %d times", n, c[1], c[2])
		}
	}
}

// slotImages are what may lie in the two slots of a device of ten pages.
func slotImages(t *testing.T) map[string][2][]byte {
	t.Helper()
	of := func(pages, root int, txid uint64) []byte {
		return metaOp(t, api.Meta{Pages: pages, Root: root, Txid: txid}).data
	}
	zeros, junk := make([]byte, 512), []byte(strings.Repeat("COPSE\x00\x01\x00", 64))
	broken := of(10, 0, 3)
	broken[500] = 1
	return map[string][2][]byte{
		"zeros":                    {zeros, zeros},
		"slot 0 alone":             {of(10, 0, 0), zeros},
		"slot 1 alone":             {zeros, of(10, 0, 1)},
		"slot 0 counts":            {of(10, 0, 2), of(10, 0, 1)},
		"slot 1 counts":            {of(10, 0, 2), of(10, 0, 3)},
		"slot 1 counts by far":     {of(10, 0, 0), of(10, 2, math.MaxUint64)},
		"slot 0 counts by far":     {of(10, 2, math.MaxUint64-1), of(10, 2, 1)},
		"slot 1 is junk":           {of(10, 0, 2), junk},
		"slot 0 is junk":           {junk, of(10, 0, 1)},
		"both are junk":            {junk, junk},
		"slot 1 is broken":         {of(10, 0, 2), broken},
		"slot 1 alone, and broken": {zeros, broken},
		"in each other's places":   {of(10, 0, 3), of(10, 0, 2)},
		"slot 1 has slot 0's":      {of(10, 0, 2), of(10, 0, 4)},
		"of another device":        {of(10, 0, 0), of(11, 0, 1)},
		"both of another device":   {of(9, 0, 2), of(9, 0, 1)},
		"no tree at its root":      {of(10, 0, 2), of(10, 5, 3)},
	}
}

// whole is a device of ten pages with these slots, and anything in its other sectors.
func whole(t *testing.T, slots [2][]byte, sectors int) *device.Device {
	t.Helper()
	d := device.New(sectors)
	for i := range sectors {
		must(t, d.Write(i, []byte(strings.Repeat(string(rune('A'+i%26)), 512))))
	}
	must(t, d.Write(0, slots[0]))
	must(t, d.Write(8, slots[1]))
	must(t, d.Sync())
	return d
}

func TestP13_1_TheSixOperations(t *testing.T) {
	for name, slots := range slotImages(t) {
		d := whole(t, slots, 85)
		ops := formatOps(t, d)
		for k := range ops {
			c := clone(t, d)
			c.Arm(k, []api.Fate{{Index: 0, Kind: api.FateKeep}})
			if err := pager.Format(c); err != api.ErrDead {
				t.Errorf("%s: the power fails in operation %d: %v", name, k, err)
			}
			what := fmt.Sprintf("%s: behind operation %d", name, k)
			wantSame(t, what, c, played(t, d, ops[:k+1], []api.Fate{{Index: 0, Kind: api.FateKeep}}))
			wantDone(t, what, c, [3]int{}, ops[:k+1])
		}
		c := clone(t, d)
		c.Arm(6, nil)
		must(t, pager.Format(c))
		wantSame(t, name, c, played(t, d, ops, nil))
		if counts(c) != [3]int{2, 3, 3} {
			t.Errorf("%s: %v sectors read, written, and syncs", name, counts(c))
		}
		if err := c.Sync(); err != api.ErrDead {
			t.Errorf("%s: more than six operations", name)
		}
	}
}

// wiped is the slot that is zero when the power fails behind the first write, which stays.
func wiped(t *testing.T, d *device.Device) int {
	t.Helper()
	d.Arm(0, []api.Fate{{Index: 0, Kind: api.FateKeep}})
	if err := pager.Format(d); err != api.ErrDead {
		t.Fatalf("Format: %v", err)
	}
	d.Revive()
	for slot := range 2 {
		if p, err := d.Read(8*slot, 1); err == nil && slices.Equal(p, make([]byte, 512)) {
			return slot
		}
	}
	return -1
}

func TestP13_1_WhichSlotGoesFirst(t *testing.T) {
	for name, want := range map[string]int{
		"slot 0 counts": 1, "slot 1 counts": 0, "slot 1 counts by far": 0, "slot 0 counts by far": 1, "slot 1 is junk": 1, "slot 0 is junk": 0,
		"both are junk": 1, "slot 1 is broken": 1, "in each other's places": 1, "slot 1 has slot 0's": 1, "of another device": 1,
		"both of another device": 1, "no tree at its root": 0,
	} {
		if slot := wiped(t, whole(t, slotImages(t)[name], 80)); slot != want {
			t.Errorf("%s: slot %d goes first, want %d", name, slot, want)
		}
	}
	for _, s := range shops(t) {
		if s.meta.Txid == 0 {
			continue // the other slot is zero anyway
		}
		if slot := wiped(t, s.d); slot != 1-int(s.meta.Txid%2) {
			t.Errorf("%s: slot %d goes first", s.name, slot)
		}
	}
}

// What is pending stands in the slots, too.
func TestP13_1_PendingSlots(t *testing.T) {
	d := whole(t, slotImages(t)["slot 0 counts"], 80)
	must(t, d.Write(8, metaOp(t, api.Meta{Pages: 10, Txid: 3}).data))
	d.Arm(0, []api.Fate{{Index: 1, Kind: api.FateKeep}})
	if err := pager.Format(d); err != api.ErrDead {
		t.Fatalf("Format: %v", err)
	}
	d.Revive()
	if p, err := d.Read(0, 1); err != nil || !slices.Equal(p, make([]byte, 512)) {
		t.Errorf("slot 0 was not the first to go: %v", err)
	}
}

func TestP13_1_NoPageIsWritten(t *testing.T) {
	for name, slots := range slotImages(t) {
		d := whole(t, slots, 87)
		was := d.Durable()
		must(t, pager.Format(d))
		must(t, meta.Wipe(d, 0))
		must(t, d.Sync())
		isOther := func(s api.Sector) bool { return s.Index == 0 || s.Index == 8 }
		if !slices.Equal(d.Durable(), slices.DeleteFunc(was, isOther)) {
			t.Errorf("%s: Format has written elsewhere", name)
		}
	}
}

func TestP13_1_ADeadDevice(t *testing.T) {
	for _, s := range shops(t) {
		was := clone(t, s.d)
		s.d.Crash(nil)
		since := counts(s.d)
		if err := pager.Format(s.d); err != api.ErrDead || counts(s.d) != since {
			t.Errorf("%s: Format: %v", s.name, err)
		}
		wantSame(t, s.name, s.d, was)
	}
}

func TestP13_2_Boot(t *testing.T) {
	for _, s := range shops(t) {
		must(t, s.d.Write(s.d.Size()-1, make([]byte, 512))) // something is pending
		was, lying, since := s.d.Durable(), s.d.Pending(), counts(s.d)
		p := boot(t, s.d)
		if p.Meta() != s.meta {
			t.Errorf("%s: Meta = %v, want %v", s.name, p.Meta(), s.meta)
		}
		wantPager(t, s.name, p, s.d)
		wantDone(t, s.name, s.d, since, nil)
		if !slices.Equal(was, s.d.Durable()) || !slices.Equal(lying, s.d.Pending()) {
			t.Errorf("%s: Boot has changed the device", s.name)
		}
		s.d.Crash(nil)
		if p, err := pager.Boot(s.d); p != nil || err != api.ErrDead {
			t.Errorf("%s: Boot of a dead device: %v, %v", s.name, p, err)
		}
	}
}

func TestP13_2_BootBehindFormat(t *testing.T) {
	for _, s := range shops(t) {
		must(t, pager.Format(s.d))
		empty := api.Meta{Pages: s.meta.Pages}
		wantHeld(t, s.name, s.d, empty, nil)
		wantSays(t, boot(t, s.d), empty, empty.Pages-2)
	}
}

// asSurvey tells if Boot of a device has the error of walk.Survey, or says what that does; that nothing is written, too.
func asSurvey(t *testing.T, what string, d *device.Device) bool {
	t.Helper()
	was, since := clone(t, d), counts(d)
	s, want := walk.Survey(d)
	p, err := pager.Boot(d)
	if err != want || (p == nil) != (err != nil) {
		t.Fatalf("%s: Boot = %v, %v, want %v", what, p, err, want)
	}
	if p != nil && (p.Meta() != s.Meta || p.Free() != s.Meta.Pages-2-len(s.Pages)) {
		t.Fatalf("%s: %v with %d free, want %v without %v", what, p.Meta(), p.Free(), s.Meta, s.Pages)
	}
	wantDone(t, what, d, since, nil)
	wantSame(t, what, d, was)
	return err == nil
}

func TestP13_2_BootOfAnything(t *testing.T) {
	for name, slots := range slotImages(t) {
		asSurvey(t, name, whole(t, slots, 80))
	}
	for _, n := range []int{0, 7, 31, 32, 80} {
		if asSurvey(t, "zeros", device.New(n)) {
			t.Errorf("%d sectors of zeros are a store", n)
		}
	}
	rnd := rand.New(rand.NewSource(13))
	right, wrong := 0, 0
	for _, s := range shops(t) {
		for range 60 {
			if asSurvey(t, s.name, spoilt(t, rnd, s.d)) {
				right++
			} else {
				wrong++
			}
		}
	}
	if right == 0 || wrong == 0 {
		t.Errorf("%d were stores, %d not", right, wrong)
	}
}

// spoilt is a device with a byte changed somewhere, a sector lost, or one in another's place.
func spoilt(t *testing.T, rnd *rand.Rand, d *device.Device) *device.Device {
	t.Helper()
	d = clone(t, d)
	l := d.Durable()
	at := rnd.Intn(len(l))
	p := []byte(l[at].Data)
	to := l[at].Index
	switch rnd.Intn(4) {
	case 0, 1:
		p[rnd.Intn(512)]++
	case 2:
		p = make([]byte, 512)
	case 3:
		to = rnd.Intn(d.Size())
	}
	must(t, d.Write(to, p))
	must(t, d.Sync())
	return d
}

func TestP13_3_TreesDoNotSeeOneAnother(t *testing.T) {
	for _, s := range shops(t) {
		p := boot(t, s.d)
		was, since := clone(t, s.d), counts(s.d)
		one, two := p.Tree(), p.Tree()
		if counts(s.d) != since {
			t.Errorf("%s: Tree reads", s.name)
		}
		b := s.book.apply(t, one, works()[3].changes)
		c := s.book.apply(t, two, works()[5].changes)
		for _, is := range []struct {
			pairs []api.Pair
			read  func(from, to string, limit int) ([]api.Pair, error)
		}{{b.pairs(), one.Pairs}, {c.pairs(), two.Pairs}, {s.book.pairs(), p.Tree().Pairs}, {s.book.pairs(), boot(t, s.d).Tree().Pairs}} {
			if l, err := is.read("", "", 1<<20); err != nil || !slices.Equal(l, is.pairs) {
				t.Errorf("%s: %d pairs, %v, want %d", s.name, len(l), err, len(is.pairs))
			}
		}
		wantPager(t, s.name, p, s.d)
		wantSame(t, s.name, s.d, was)
		wantDone(t, s.name, s.d, since, nil)
	}
}

func TestP13_4_Commit(t *testing.T) {
	for _, s := range shops(t) {
		for _, w := range works() {
			for _, copied := range []bool{false, true} {
				what := fmt.Sprintf("%s: %s, copied %v", s.name, w.name, copied)
				d := clone(t, s.d)
				p := boot(t, d)
				r := p.Tree()
				b := s.book.apply(t, r, w.changes)
				ops, next := commitOps(t, d, r)
				n, original := r.Changed(), r
				if copied {
					r = r.Copy()
				}
				d.Arm(n+3, nil)
				since := counts(d)
				if err := p.Commit(r); err != nil {
					t.Fatalf("%s: %v", what, err)
				}
				wantDone(t, what, d, since, ops)
				wantSame(t, what, d, played(t, s.d, ops, nil))
				wantHeld(t, what, d, next, b)
				wantPager(t, what, p, d)
				if l, err := r.Pairs("", "", 1<<20); err != nil || !slices.Equal(l, b.pairs()) || r.Changed() != 0 {
					t.Errorf("%s: the tree has %d pairs, %v, and %d changed nodes", what, len(l), err, r.Changed())
				}
				if copied && original.Changed() != n {
					t.Errorf("%s: %d nodes are changed in the tree that was copied, want %d", what, original.Changed(), n)
				}
				if err := d.Sync(); err != api.ErrDead {
					t.Errorf("%s: more than %d operations", what, n+3)
				}
			}
		}
	}
}

func TestP13_4_NoChanges(t *testing.T) {
	for _, s := range shops(t) {
		p := boot(t, s.d)
		since := counts(s.d)
		must(t, p.Commit(p.Tree()))
		m := s.meta
		m.Txid++
		wantHeld(t, s.name, s.d, m, s.book)
		wantPager(t, s.name, p, s.d)
		wantDone(t, s.name, s.d, since, []op{syncOp, metaOp(t, m), syncOp})
	}
}

func TestP13_4_OneBehindTheOther(t *testing.T) {
	rnd := rand.New(rand.NewSource(4))
	d, p := formatted(t, 8*120+3)
	b, m := book{}, api.Meta{Pages: 120}
	for i := range 250 {
		r := p.Tree()
		if rnd.Intn(4) == 0 {
			r = r.Copy()
		}
		b = b.apply(t, r, anyChanges(rnd, 40))
		ops, next := commitOps(t, d, r)
		was, n := clone(t, d), r.Changed()
		if err := p.Commit(r); err != nil {
			t.Fatalf("commit %d of %d nodes: %v", i, n, err)
		}
		m = next
		what := fmt.Sprint("commit ", i)
		wantSame(t, what, d, played(t, was, ops, nil))
		wantHeld(t, what, d, m, b)
		wantPager(t, what, p, d)
	}
	if m.Txid != 250 {
		t.Errorf("%d commits", m.Txid)
	}
}

// anyChanges put and delete some of so many keys.
func anyChanges(rnd *rand.Rand, keys int) []change {
	var l []change
	for range rnd.Intn(8) {
		c := puts(rnd.Intn(keys), 1, rnd.Intn(701))[0]
		c.gone = rnd.Intn(3) == 0
		l = append(l, c)
	}
	return l
}

func TestP13_4_TheLastNumber(t *testing.T) {
	for _, changed := range []bool{false, true} {
		d := device.New(80)
		must(t, meta.Store(d, api.Meta{Pages: 10, Txid: math.MaxUint64 - 2}))
		must(t, d.Sync())
		p := boot(t, d)
		wantCommit(t, p, nil, change{key: "a", value: "1"})
		wantCommit(t, p, nil, change{key: "a", value: "2"})
		last := api.Meta{Pages: 10, Root: 3, Txid: math.MaxUint64}
		wantSays(t, p, last, 7)
		was, since := clone(t, d), counts(d)
		r := p.Tree()
		if changed { // by more nodes than there are pages
			book{}.apply(t, r, puts(0, 60, 700))
		}
		n := r.Changed()
		for _, dead := range []bool{false, true} {
			if dead {
				d.Crash(nil)
			}
			if err := p.Commit(r); err != api.ErrTxid || r.Changed() != n {
				t.Errorf("Commit with %d changed nodes, dead %v: %v", n, dead, err)
			}
			wantDone(t, "the last number", d, since, nil)
			wantSame(t, "the last number", d, was)
			wantSays(t, p, last, 7)
		}
		d.Revive()
		wantHeld(t, "the last number", d, last, book{"a": "2"})
	}
}

// sized is a store of these pairs on a device of so many pages.
func sized(t *testing.T, pages int, changes []change) shop {
	t.Helper()
	s := emptyShop(t, fmt.Sprint(pages, " pages"), 8*pages)
	s.commit(t, changes)
	return s
}

func TestP13_5_FullJustAboveFree(t *testing.T) {
	full, fits := 0, 0
	for pages := 7; pages < 20; pages++ {
		s := sized(t, pages, puts(0, 10, 700))
		for more := range 20 {
			d := clone(t, s.d)
			p := boot(t, d)
			r := p.Tree()
			b := s.book.apply(t, r, puts(5, more, 700))
			n, room := r.Changed(), p.Free()
			what := fmt.Sprintf("%s, %d free, %d changed", s.name, room, n)
			if n > room {
				full++
				wantFull(t, what, p, d, r, b)
				continue
			}
			fits++
			must(t, p.Commit(r))
			wantHeld(t, what, d, p.Meta(), b)
		}
	}
	if full < 20 || fits < 20 {
		t.Errorf("%d were full, %d had room", full, fits)
	}
}

// wantFull asks for a commit that has no room: nothing is done, and the pager is good for others.
func wantFull(t *testing.T, what string, p *pager.Pager, d *device.Device, r *tree.Tree, b book) {
	t.Helper()
	was, since, n := clone(t, d), counts(d), r.Changed()
	if err := p.Commit(r); err != api.ErrFull {
		t.Fatalf("%s: %v", what, err)
	}
	d.Crash(nil)
	if err := p.Commit(r); err != api.ErrFull { // no page has to be read for that
		t.Fatalf("%s, dead: %v", what, err)
	}
	d.Revive()
	wantDone(t, what, d, since, nil)
	wantSame(t, what, d, was)
	wantPager(t, what, p, d)
	wantAsItWas(t, what, r, n, b)
	wantCommit(t, p, nil)
	wantPager(t, what, p, d)
}

// wantAsItWas holds a tree that was not committed against what it was.
func wantAsItWas(t *testing.T, what string, r *tree.Tree, changed int, b book) {
	t.Helper()
	if n := r.Changed(); n != changed {
		t.Fatalf("%s: %d nodes are changed, want %d", what, n, changed)
	}
	if l, err := r.Pairs("", "", 1<<20); err != nil || !slices.Equal(l, b.pairs()) {
		t.Fatalf("%s: the tree has %d pairs, %v, want %d", what, len(l), err, len(b))
	}
}

func TestP13_5_TheVeryLastPage(t *testing.T) {
	changes := puts(0, 10, 700)
	r := emptyShop(t, "any", 80).tree()
	book{}.apply(t, r, changes)
	n := r.Changed()
	_, p := formatted(t, 8*(2+n-1))
	wantCommit(t, p, api.ErrFull, changes...)
	wantSays(t, p, api.Meta{Pages: n + 1}, n-1)
	d, p := formatted(t, 8*(2+n))
	wantCommit(t, p, nil, changes...)
	wantSays(t, p, api.Meta{Pages: n + 2, Root: n + 1, Txid: 1}, 0)
	wantCommit(t, p, api.ErrFull, change{key: "a", value: "1"})
	wantCommit(t, p, nil, drops(0, 10)...) // takes none
	wantSays(t, p, api.Meta{Pages: n + 2, Txid: 2}, n)
	wantHeld(t, "emptied", d, api.Meta{Pages: n + 2, Txid: 2}, nil)
}

// TestP13_5_Room: so many pairs always have room, whatever is done to them.
func TestP13_5_Room(t *testing.T) {
	for pages := 5; pages <= 44; pages += 3 {
		rnd := rand.New(rand.NewSource(int64(pages)))
		most := (7*pages - 24) / 8
		d, p := formatted(t, 8*pages)
		b := book{}
		for i := range 120 {
			r := p.Tree()
			for range rnd.Intn(3 * most) {
				c := change{key: long(fmt.Sprintf("k%03d", rnd.Intn(2*most))), value: strings.Repeat("v", 700-rnd.Intn(2)*rnd.Intn(701))}
				c.gone = len(b) == most || rnd.Intn(3) == 0
				b = b.apply(t, r, []change{c})
			}
			n := r.Changed()
			if err := p.Commit(r); err != nil {
				t.Fatalf("%d pages, %d pairs, commit %d: %v: %d nodes are changed, and %d pages free", pages, len(b), i, err, n, p.Free())
			}
		}
		wantHeld(t, "behind all", d, p.Meta(), b)
	}
}

func TestP13_5_PagesAreUsedAgain(t *testing.T) {
	_, p := formatted(t, 32)
	for i := range 300 {
		wantCommit(t, p, nil, change{key: "a", value: fmt.Sprint(i)})
		wantSays(t, p, api.Meta{Pages: 4, Root: 2 + i%2, Txid: uint64(i + 1)}, 1)
	}
}

// TestP13_5_BootedAnew: one pager for all commits, and one for each, write the same; so does one on a device whose free pages hold other bytes.
func TestP13_5_BootedAnew(t *testing.T) {
	rnd := rand.New(rand.NewSource(51))
	one, p := formatted(t, 8*90)
	two, _ := formatted(t, 8*90)
	three := whole(t, slotImages(t)["both are junk"], 8*90)
	must(t, pager.Format(three))
	q := boot(t, three)
	for i := range 150 {
		changes := anyChanges(rnd, 30)
		wantCommit(t, p, nil, changes...)
		wantCommit(t, boot(t, two), nil, changes...)
		wantCommit(t, q, nil, changes...)
		what := fmt.Sprint("commit ", i)
		wantSame(t, what, two, one)
		if s, err := walk.Survey(three); err != nil || s.Meta != p.Meta() || q.Free() != p.Free() {
			t.Fatalf("%s: %v, %v, want %v", what, s.Meta, err, p.Meta())
		}
	}
}

func TestP13_9_ATreeIsItsOwn(t *testing.T) {
	for _, s := range shops(t) {
		p := boot(t, s.d)
		m := p.Meta()
		r := p.Tree()
		b := s.book.apply(t, r, works()[1].changes)
		before := r.Copy()
		must(t, p.Commit(r))
		next := p.Meta()
		if m.Txid != s.meta.Txid || next.Txid != m.Txid+1 {
			t.Errorf("%s: %v, then %v", s.name, m, next)
		}
		s.book.apply(t, r, works()[3].changes) // what becomes of a tree that was committed is not the pager's affair
		before.Put("x", "y")
		wantPager(t, s.name, p, s.d)
		wantHeld(t, s.name, s.d, next, b)
		again := p.Tree()
		must(t, p.Commit(again))
		wantHeld(t, s.name, s.d, p.Meta(), b)
	}
}

func TestP13_9_TwoDevices(t *testing.T) {
	one, p := formatted(t, 80)
	two, q := formatted(t, 80)
	wantCommit(t, p, nil, change{key: "a", value: "1"})
	wantSays(t, q, api.Meta{Pages: 10}, 8)
	wantHeld(t, "two", two, api.Meta{Pages: 10}, nil)
	wantHeld(t, "one", one, p.Meta(), book{"a": "1"})
}

// TestAGreatDevice: what is zero costs nothing.
func TestAGreatDevice(t *testing.T) {
	d, p := formatted(t, api.MaxSectors)
	for i := range 20 {
		wantCommit(t, p, nil, puts(i, 12, 700)...)
	}
	wantPager(t, "great", p, d)
	if p.Meta().Root > 100 || len(d.Durable()) > 800 {
		t.Errorf("the root is page %d, %d sectors are not zero", p.Meta().Root, len(d.Durable()))
	}
}
