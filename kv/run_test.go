package kv_test

import (
	"fmt"
	"math/rand"
	"slices"
	"strings"
	"testing"

	"copse/api"
	"copse/device"
	"copse/kv"
	"copse/walk"
)

// anyKey is one of some hundred keys, short and long.
func anyKey(rnd *rand.Rand) string {
	k := fmt.Sprintf("%c%c", 'a'+rnd.Intn(12), 'a'+rnd.Intn(12))
	switch rnd.Intn(4) {
	case 0:
		return k[:1]
	case 1:
		return long(k)
	}
	return k
}

func anyValue(rnd *rand.Rand) string {
	return strings.Repeat(string(rune('a'+rnd.Intn(26))), []int{0, 1, 30, 300, 700}[rnd.Intn(5)])
}

// anyCallOf is a call, more often one that may come.
func anyCallOf(rnd *rand.Rand, w *twin) call {
	name := names[rnd.Intn(len(names))]
	switch n := rnd.Intn(20); {
	case w.m.status == api.Closed && n < 14:
		name = "Open"
	case w.m.status == api.Opened && n < 12:
		name = "Begin"
	case w.m.status == api.Working && n < 12:
		name = "Put"
	case w.m.status == api.Working && n < 15:
		name = "Delete"
	case name == "Format" && n < 15: // else nothing would ever grow
		name = "Commit"
	}
	c := call{name: name}
	switch name {
	case "Put":
		c.key, c.value = anyKey(rnd), anyValue(rnd)
	case "Delete", "Get":
		c.key = anyKey(rnd)
	case "Scan":
		c.key, c.value, c.limit = anyKey(rnd), anyKey(rnd), rnd.Intn(1003)-1
		if rnd.Intn(2) == 0 {
			c.value = ""
		}
	}
	if (name == "Put" || name == "Delete") && len(w.m.hand) > 0 && rnd.Intn(3) == 0 {
		p := w.m.hand.pairs()
		c.key = p[rnd.Intn(len(p))].Key
	}
	if rnd.Intn(30) == 0 {
		wrong := wrongCalls()
		return wrong[rnd.Intn(len(wrong))]
	}
	return c
}

// TestP14_4_LongRuns: any calls in any order, held against a map of pairs and a status.
func TestP14_4_LongRuns(t *testing.T) {
	rnd := rand.New(rand.NewSource(144))
	seen := map[string]int{}
	most := 0
	for _, sectors := range []int{31, 32, 36, 48, 64, 100, 300, 1000} {
		w := newTwin(t, device.New(sectors))
		w.seen = seen
		for i := range 2500 {
			c := anyCallOf(rnd, w)
			w.do(c)
			most = max(most, len(w.m.counts))
			if w.m.holds && (c.name == "Commit" || i%50 == 0) {
				w.wantDevice(c)
			}
		}
	}
	if most < 60 {
		t.Errorf("no more than %d pairs", most)
	}
	for _, name := range names {
		for _, status := range []int{api.Closed, api.Opened, api.Working, api.Broken} {
			want := api.ErrStatus
			if slices.Contains(mayCome[name], status) {
				want = nil
			}
			kind := fmt.Sprint(name, " in ", statusNames[status], ": ", want)
			if seen[kind] == 0 {
				t.Errorf("never seen: %s", kind)
			}
		}
	}
	for _, kind := range []string{"Open in Closed: not a store", "Commit in Working: no room on the device", "Put in Working: a number or an argument is out of its place", "Scan in Opened: a number or an argument is out of its place"} {
		if seen[kind] < 2 {
			t.Errorf("%s: %d times", kind, seen[kind])
		}
	}
}

// TestP14_8_JustWhereThereIsNoRoom: on devices of few pages, on either side of the edge. The twin says of each Commit whether there is room.
func TestP14_8_JustWhereThereIsNoRoom(t *testing.T) {
	rnd := rand.New(rand.NewSource(148))
	edges := map[int]int{} // by how many pages it was too few, or how many were left
	for pages := 4; pages < 30; pages += 1 + pages/8 {
		w := opened(t, 8*pages+rnd.Intn(8))
		for range 60 {
			w.begin()
			for range rnd.Intn(3 * pages) {
				if rnd.Intn(3) > 0 {
					w.do(put(anyKey(rnd), anyValue(rnd)))
				} else {
					w.do(del(anyKey(rnd)))
				}
			}
			over := w.shadow.Changed() - w.free
			edges[over]++
			err := w.commit()
			if (err == api.ErrFull) != (over > 0) {
				t.Fatalf("%d pages: %d changed, %d free: %v", pages, w.shadow.Changed(), w.free, err)
			}
			if err != nil {
				w.rollback()
			}
		}
		w.wantDevice(pages)
	}
	for over := -2; over <= 2; over++ {
		if edges[over] < 5 {
			t.Errorf("%d pages too few: %d times", over, edges[over])
		}
	}
}

// mostPairs is the greatest K of the promise, for a device of so many pages.
func mostPairs(pages int) int { return (7*pages - 24) / 8 }

// mostPages is how many pages a tree of so many pairs may have.
func mostPages(pairs int) int {
	if pairs < 4 {
		return min(pairs, 1)
	}
	return (4*pairs + 5) / 7
}

// TestP14_8_NeverFull: with so few pairs there is always room, however much is done, and however often the power fails.
func TestP14_8_NeverFull(t *testing.T) {
	rnd := rand.New(rand.NewSource(158))
	for pages := 4; pages < 48; pages += 1 + pages/12 {
		w := opened(t, 8*pages)
		most := mostPairs(pages)
		name := func() string { return long(fmt.Sprintf("%03d", rnd.Intn(most*3/2+1))) }
		if rnd.Intn(3) == 0 {
			name = func() string { return anyKey(rnd) }
		}
		for range 40 {
			w.begin()
			for range rnd.Intn(4*most + 2) {
				w.do(del(name()))
				if len(w.m.hand) < most {
					w.do(put(name(), strings.Repeat("v", 700-rnd.Intn(2)*rnd.Intn(701))))
				}
			}
			for len(w.m.hand) < most && rnd.Intn(2) == 0 {
				w.do(put(name(), strings.Repeat("v", 700)))
			}
			if rnd.Intn(4) == 0 {
				w.failIn(rnd, call{name: "Commit"}, map[string]int{})
				w.again()
			} else if err := w.commit(); err != nil {
				t.Fatalf("%d pages, %d pairs: %v", pages, len(w.m.hand), err)
			}
			s, err := walk.Survey(w.d)
			must(t, err)
			if len(s.Pages) > mostPages(s.Pairs) {
				t.Fatalf("%d pairs in %d pages", s.Pairs, len(s.Pages))
			}
		}
	}
}

// The fullest trees of so many pairs, all of them made anew in one transaction.
func TestP14_8_AllAnew(t *testing.T) {
	for pages := 4; pages < 120; pages += 1 + pages/12 {
		w := opened(t, 8*pages)
		for i := range 4 {
			w.begin()
			for k := range mostPairs(pages) {
				w.do(put(long(fmt.Sprintf("%03d", k)), strings.Repeat(string(rune('a'+i)), 700-350*(i%2))))
			}
			if err := w.commit(); err != nil {
				t.Fatalf("%d pages: %v", pages, err)
			}
		}
	}
}

// TestP14_9_OpenedAnew: two stores that are asked the same, one of which is closed and opened again wherever it is Opened.
func TestP14_9_OpenedAnew(t *testing.T) {
	rnd := rand.New(rand.NewSource(159))
	for _, sectors := range []int{32, 64, 100, 300} {
		w := newTwin(t, device.New(sectors))
		d := device.New(sectors)
		s, times := kv.New(d), 0
		for range 2000 {
			c := anyCallOf(rnd, w)
			want := w.do(c)
			if a := c.of(s); !a.equals(want) {
				t.Fatalf("%v = %v, want %v", c, a, want)
			}
			if s.Status() != w.s.Status() || s.Txid() != w.s.Txid() {
				t.Fatalf("behind %v: %d, %d, want %d, %d", c, s.Status(), s.Txid(), w.s.Status(), w.s.Txid())
			}
			if c.name == "Commit" || c.name == "Format" {
				wantSame(t, c, d, w.d)
			}
			if s.Status() == api.Opened {
				must(t, s.Close())
				must(t, s.Open())
				times++
			}
		}
		if times < 100 {
			t.Errorf("opened anew %d times", times)
		}
	}
}

// Nothing that counts is written over (W6): neither a page of the tree nor its slot.
func TestP14_6_NothingThatCountsIsWrittenOver(t *testing.T) {
	for _, s := range shops(t) {
		for _, l := range works() {
			survey, err := walk.Survey(s.d)
			must(t, err)
			d := clone(t, s.d)
			w := twinOver(t, d)
			w.do(call{name: "Open"})
			w.work(l.calls...)
			for _, id := range survey.Pages {
				wantSector(t, s.name, d, s.d, 8*id, 8)
			}
			wantSector(t, s.name, d, s.d, 8*survey.Slot, 1)
		}
	}
}

func wantSector(t *testing.T, what string, d, was *device.Device, sector, n int) {
	t.Helper()
	a, err := d.Read(sector, n)
	must(t, err)
	b, err := was.Read(sector, n)
	must(t, err)
	if !slices.Equal(a, b) {
		t.Fatalf("%s: sector %d was written over", what, sector)
	}
}

// Pages outside of the tree that counts are truly used again (W7): what is written does not grow over the device.
func TestP14_8_PagesAreUsedAgain(t *testing.T) {
	w := opened(t, 8*40)
	for i := range 200 {
		w.work(put("a", fmt.Sprint(i)), put("b", fmt.Sprint(i)))
	}
	if l := w.d.Durable(); l[len(l)-1].Index >= 8*4 {
		t.Errorf("sector %d was written", l[len(l)-1].Index)
	}
}
