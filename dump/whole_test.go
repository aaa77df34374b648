package dump_test

import (
	"fmt"
	"math/rand"
	"slices"
	"testing"

	"copse/api"
	"copse/device"
	"copse/dump"
	"copse/kv"
	"copse/tree"
	"copse/walk"
)

// fewestLeaves is a plain count: of all ways in which pairs can stand in leaves that may be (one alone may have any size up to 4072), one with the fewest leaves.
func fewestLeaves(l []api.Pair) int {
	if sizeOf(l) <= 4072 {
		return min(1, len(l))
	}
	const none = 1 << 30
	fewest := make([]int, len(l)+1) // of the first so many pairs
	for end := 1; end <= len(l); end++ {
		fewest[end] = none
		for from := end - 1; from >= 0; from-- {
			size := sizeOf(l[from:end])
			if size > 4072 {
				break
			}
			if size >= 1556 {
				fewest[end] = min(fewest[end], 1+fewest[from])
			}
		}
	}
	return fewest[len(l)]
}

// leavesOn is how many leaves the tree on a device has.
func leavesOn(t *testing.T, d *device.Device) int {
	t.Helper()
	s, err := walk.Survey(d)
	must(t, err)
	leaves, err := tree.Open(d, s.Meta).Leaves()
	must(t, err)
	return len(leaves)
}

func TestP21_5_TheFewestLeaves(t *testing.T) {
	r, seen := rand.New(rand.NewSource(2151)), map[int]int{}
	for i := range 400 {
		l := randomPairs(r, []int{3, 20, 60, 120}[i%4])
		d := device.New(8 * 200)
		must(t, dump.Bulk(d, l))
		got, want := leavesOn(t, d), fewestLeaves(l)
		if got != want {
			t.Errorf("%d pairs of %d bytes have %d leaves, want %d", len(l), sizeOf(l), got, want)
		}
		seen[min(want, 4)]++
	}
	for leaves := range 5 {
		if seen[leaves] < 5 {
			t.Errorf("only %d of the lists need %d leaves", seen[leaves], leaves)
		}
	}
}

// No store that was made another way has fewer.
func TestP21_5_NoStoreHasFewerLeaves(t *testing.T) {
	r, more := rand.New(rand.NewSource(2152)), 0
	for range 30 {
		l := randomPairs(r, 300)
		bulked, loaded, stirred := device.New(8*400), device.New(8*400), device.New(8*400)
		must(t, dump.Bulk(bulked, l))
		must(t, dump.Load(loaded, plainLines(l)))
		shuffled := slices.Clone(l)
		r.Shuffle(len(l), func(i, j int) { shuffled[i], shuffled[j] = shuffled[j], shuffled[i] })
		must(t, loadByHand(stirred, shuffled))
		wantHeld(t, "loaded", loaded, uint64(len(l)+99)/100, l)
		wantHeld(t, "stirred", stirred, uint64(len(l)+99)/100, l)
		n := leavesOn(t, bulked)
		if n > leavesOn(t, loaded) || n > leavesOn(t, stirred) {
			t.Errorf("%d pairs: a bulk of %d leaves, a loaded store of %d, a stirred one of %d", len(l), n, leavesOn(t, loaded), leavesOn(t, stirred))
		}
		if n < leavesOn(t, loaded) {
			more++
		}
	}
	if more < 10 {
		t.Errorf("only %d of the loaded stores have more leaves", more)
	}
}

func TestP21_5_TheSurvey(t *testing.T) {
	for _, l := range [][]api.Pair{nil, pairs("a", "1"), alike(5, 700), alike(6, 900), alike(500, 90), stand(slices.Repeat([]int{255}, 17)...), stand(slices.Repeat([]int{255}, 257)...)} {
		b := plainBulk(l)
		n := len(b.pages)
		want := api.Survey{Meta: api.Meta{Pages: n + 9, Root: b.root(), Txid: 1}, Slot: 1, Depth: len(b.rows), Pairs: len(l), Bytes: sizeOf(l) - 5*len(l)}
		for i := range n {
			want.Pages = append(want.Pages, 2+i)
		}
		d := device.New(8*(n+9) + 3)
		must(t, dump.Bulk(d, l))
		got, err := walk.Survey(d)
		if err != nil || fmt.Sprint(got) != fmt.Sprint(want) {
			t.Errorf("%d pairs: the survey is %v, %v, want %v", len(l), got, err, want)
		}
		if len(d.Pending()) != 0 {
			t.Errorf("%d pairs: %d writes are pending", len(l), len(d.Pending()))
		}
		d.Crash(nil)
		d.Revive()
		wantHeld(t, "behind a crash", d, 1, l)
	}
}

// Read of what Dump answers are the store's pairs, Load and Bulk of them make stores with the same pairs, and these have the same dump.
func TestP21_5_ThereAndBack(t *testing.T) {
	r := rand.New(rand.NewSource(2153))
	for i := range 80 {
		l := randomPairs(r, []int{0, 4, 99, 450}[i%4])
		if i == 0 {
			l = oddPairs()
		}
		d := device.New(8 * 300)
		shuffled := slices.Clone(l)
		r.Shuffle(len(l), func(i, j int) { shuffled[i], shuffled[j] = shuffled[j], shuffled[i] })
		must(t, loadByHand(d, shuffled))
		lines, err := dump.Dump(d)
		must(t, err)
		read, err := dump.Read(lines)
		if err != nil || !slices.Equal(read, l) {
			t.Fatalf("%d pairs: Read of Dump: %s, %v", len(l), show(read), err)
		}
		loaded, bulked := device.New(8*300), storeOf(t, 300, 2, pairs("old", "1"))
		must(t, dump.Load(loaded, lines))
		must(t, dump.Bulk(bulked, read))
		wantHeld(t, "loaded", loaded, uint64(len(l)+99)/100, l)
		wantHeld(t, "bulked", bulked, 1, l)
		wantLines(t, "loaded", loaded, lines, nil)
		wantLines(t, "bulked", bulked, lines, nil)
		must(t, dump.Bulk(bulked, read))
		must(t, dump.Load(loaded, lines))
		wantHeld(t, "loaded over itself", loaded, uint64(len(l)+99)/100, l)
		wantHeld(t, "bulked over itself", bulked, 1, l)
	}
}

// A bulk is a store like any other: transactions go on over it.
func TestP21_5_GoesOn(t *testing.T) {
	r := rand.New(rand.NewSource(2154))
	for _, l := range [][]api.Pair{nil, pairs("a", "1"), alike(60, 900), alike(900, 60), stand(slices.Repeat([]int{255}, 40)...)} {
		d := device.New(8 * 900)
		must(t, dump.Bulk(d, l))
		s, book := kv.New(d), map[string]string{}
		must(t, s.Open())
		for _, p := range l {
			book[p.Key] = p.Value
		}
		for txid := range 20 {
			must(t, s.Begin())
			for range 20 {
				key, value := randomText(r, 1, 30), randomText(r, 0, 200)
				if len(l) > 0 && r.Intn(2) == 0 {
					key = l[r.Intn(len(l))].Key
				}
				if r.Intn(3) == 0 {
					_, err := s.Delete(key)
					must(t, err)
					delete(book, key)
					continue
				}
				must(t, s.Put(key, value))
				book[key] = value
			}
			must(t, s.Commit())
			wantHeld(t, "goes on", d, uint64(2+txid), inOrder(book))
		}
	}
}

// The chapter's examples, line by line.
func TestExamples(t *testing.T) {
	wantLines(t, "an empty store", storeOf(t, 4, 0, nil), []string{"end 0"}, nil)
	wantLines(t, "one with a", storeOf(t, 4, 1, pairs("a", "1")), []string{"put a 1", "end 1"}, nil)
	wantNotRead(t, api.ErrShort)
	wantNotRead(t, api.ErrShort, "put a 1")
	wantNotRead(t, api.ErrText, "end 1")
	wantNotRead(t, api.ErrText, "end 00")
	wantNotRead(t, api.ErrText, "end 0", "end 0")
	wantNotRead(t, api.ErrOrder, "put b 1", "put a 1", "end 2")
	wantNotRead(t, api.ErrOrder, "put a 1", "put a 1", "end 2")
	wantNotRead(t, api.ErrText, "x")
	d := device.New(800)
	must(t, dump.Load(d, plainLines(alike(250, 20))))
	wantHeld(t, "250 pairs", d, 3, alike(250, 20))
	for _, c := range []struct {
		l     []api.Pair
		root  int
		pages []string
	}{
		{nil, 0, nil},
		{pairs("a", "1"), 2, []string{plainPage(0x4C, 2, []string{"\x01\x00\x01a1"})}},
	} {
		d := device.New(32)
		must(t, dump.Bulk(d, c.l))
		want := map[int]string{0: plainMeta(4, 0, 0), 8: plainMeta(4, c.root, 1)}
		for i, p := range c.pages {
			want[16+8*i] = p[:512] // all others are zero
		}
		if got := imageOf(d).durable; fmt.Sprint(got) != fmt.Sprint(want) {
			t.Errorf("Bulk of %s: %s, want %s", show(c.l), show(got), show(want))
		}
	}
	wantNoBulk(t, "31 sectors", device.New(31), pairs("a", "1"), api.ErrArg)
	wantNoBulk(t, "three leaves", device.New(32), alike(9, 900), api.ErrFull)
	wantNoBulk(t, "two leaves", device.New(32), alike(5, 960), api.ErrFull)
	d = device.New(8 * 5)
	must(t, dump.Bulk(d, alike(5, 960)))
	s, err := walk.Survey(d)
	leaves, errLeaves := tree.Open(d, s.Meta).Leaves()
	second := alike(5, 960)[2].Key
	if err != nil || errLeaves != nil || s.Meta.Root != 4 || !slices.Equal(leaves, []api.Span{{Page: 2}, {Page: 3, From: second}}) {
		t.Errorf("two leaves, the second too small: root %d, %v, %v, %v", s.Meta.Root, leaves, err, errLeaves)
	}
}
