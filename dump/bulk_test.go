package dump_test

import (
	"fmt"
	"math/rand"
	"slices"
	"strings"
	"testing"

	"copse/api"
	"copse/device"
	"copse/dump"
	"copse/pager"
)

// bulkByHand is what P21.4 does with pairs that have no fault and a device that has room, by the device's own calls behind Format.
func bulkByHand(d *device.Device, l []api.Pair) error {
	if err := pager.Format(d); err != nil {
		return err
	}
	b := plainBulk(l)
	for i, p := range b.pages {
		if err := d.Write(8*(2+i), []byte(p)); err != nil {
			return err
		}
	}
	if err := d.Sync(); err != nil {
		return err
	}
	if err := d.Write(8, []byte(plainMeta(d.Size()/8, b.root(), 1))); err != nil {
		return err
	}
	return d.Sync()
}

// wantBulk wants a Bulk over a device to leave just these bytes: the pages of the bulk, the two slots, and all else as it was; and answers how many nodes each row has.
func wantBulk(t *testing.T, what string, d *device.Device, l []api.Pair) []int {
	t.Helper()
	d = clone(t, d)
	b, want := plainBulk(l), imageOf(d)
	lay := func(sector int, bytes string) {
		for i := range len(bytes) / 512 {
			want.durable[sector+i] = bytes[512*i:][:512]
			if want.durable[sector+i] == strings.Repeat("\x00", 512) {
				delete(want.durable, sector+i)
			}
		}
	}
	for i, p := range b.pages {
		lay(8*(2+i), p)
	}
	lay(0, plainMeta(d.Size()/8, 0, 0))
	lay(8, plainMeta(d.Size()/8, b.root(), 1))
	want.written, want.sync = 3+8*len(b.pages)+1, 5
	if err := dump.Bulk(d, l); err != nil {
		t.Errorf("%s: Bulk: %v", what, err)
		return nil
	}
	wantSame(t, what, imageOf(d), want)
	wantHeld(t, what, d, 1, l)
	return b.rows
}

// wantRows wants just these rows besides.
func wantRows(t *testing.T, what string, l []api.Pair, rows ...int) {
	t.Helper()
	nodes := 2
	for _, n := range rows {
		nodes += n
	}
	if got := wantBulk(t, what, device.New(8*max(4, nodes)), l); !slices.Equal(got, rows) {
		t.Errorf("%s: rows of %v nodes, want %v", what, got, rows)
	}
}

// wantNoBulk wants an error, and that nothing is done to the device.
func wantNoBulk(t *testing.T, what string, d *device.Device, l []api.Pair, want error) {
	t.Helper()
	before := imageOf(d)
	if err := dump.Bulk(d, l); err != want {
		t.Errorf("%s: Bulk: %v, want %v", what, err, want)
	}
	wantSame(t, what, imageOf(d), before)
}

func TestP21_4_FaultsOfPairs(t *testing.T) {
	k, v := strings.Repeat("k", 300), strings.Repeat("v", 800)
	for _, c := range []struct {
		l   []api.Pair
		err error
	}{
		{pairs("", ""), api.ErrArg}, {pairs("", "1"), api.ErrArg}, {pairs(k[:256], "1"), api.ErrArg}, {pairs(k, ""), api.ErrArg}, {pairs("a", v[:701]), api.ErrArg}, {pairs(k[:255], v[:701]), api.ErrArg}, {pairs("a", "1", "", "1"), api.ErrArg}, {pairs("a", "1", "b", v), api.ErrArg},
		{pairs("a", "1", "a", "1"), api.ErrOrder}, {pairs("a", "1", "a", "2"), api.ErrOrder}, {pairs("b", "1", "a", "1"), api.ErrOrder}, {pairs("a\x00", "", "a", ""), api.ErrOrder}, {pairs("\xff", "", "a", ""), api.ErrOrder}, {pairs("aa", "", "a\xff", "", "ab", ""), api.ErrOrder},
		{pairs("b", "", "a", "", "", ""), api.ErrOrder}, {pairs("b", "", "", "", "a", ""), api.ErrArg}, {pairs("b", "", "a", v), api.ErrArg}, {pairs("", "", "b", "", "a", ""), api.ErrArg}, {pairs("b", "", "b", "", k, ""), api.ErrOrder}, {pairs("a", "", "b", "", "c", "", "a", ""), api.ErrOrder},
	} {
		if err := plainFault(c.l); err != c.err {
			t.Fatalf("%s: the test's own words say %v", show(c.l), err)
		}
		dead := storeOf(t, 8, 1, pairs("old", "1"))
		dead.Crash(nil)
		pending := storeOf(t, 8, 1, pairs("old", "1"))
		must(t, pending.Write(24, slices.Repeat([]byte{1}, 1024)))
		for _, d := range []*device.Device{device.New(0), device.New(31), device.New(32), device.New(400), dead, pending, storeOf(t, 8, 2, pairs("old", "1"))} {
			wantNoBulk(t, show(c.l), d, c.l, c.err)
		}
		wantNoBulk(t, "behind many", device.New(64), append(alike(300, 960), c.l...), plainFault(append(alike(300, 960), c.l...)))
	}
	wantBulk(t, "the greatest pair", device.New(32), pairs(k[:255], v[:700]))
	wantBulk(t, "the least pair", device.New(32), pairs("\x00", ""))
	r := rand.New(rand.NewSource(2141))
	keys := []string{"a", "b", "c", "d", "e", "f", "", "g", k[:256], "h"}
	for range 3000 {
		var l []api.Pair
		for i := range r.Intn(6) {
			p := api.Pair{Key: keys[i], Value: v[:r.Intn(5)]}
			switch r.Intn(12) {
			case 0:
				p.Key = keys[r.Intn(len(keys))]
			case 1:
				p.Value = v[:701]
			}
			l = append(l, p)
		}
		if err := plainFault(l); err != nil {
			wantNoBulk(t, show(l), device.New(32), l, err)
		} else {
			wantBulk(t, show(l), device.New(32), l)
		}
	}
}

func TestP21_4_Devices(t *testing.T) {
	for _, l := range [][]api.Pair{nil, pairs("a", "1"), alike(100, 960)} {
		for _, sectors := range []int{0, 1, 8, 16, 24, 31} {
			d := device.New(sectors)
			wantNoBulk(t, fmt.Sprintf("%d sectors", sectors), d, l, api.ErrArg)
			d.Crash(nil)
			wantNoBulk(t, fmt.Sprintf("%d sectors, dead", sectors), d, l, api.ErrArg)
		}
	}
	for _, sectors := range []int{32, 33, 39, 40, 8 * 100000, 8*api.MaxPages - 1, 8 * api.MaxPages, api.MaxSectors} {
		wantBulk(t, fmt.Sprintf("%d sectors", sectors), device.New(sectors), nil)
		wantBulk(t, fmt.Sprintf("%d sectors", sectors), device.New(sectors), pairs("a", "1"))
	}
	dead := device.New(64)
	dead.Crash(nil)
	wantNoBulk(t, "dead", dead, nil, api.ErrDead)
	wantNoBulk(t, "dead", dead, pairs("a", "1"), api.ErrDead)
}

// A bulk of just as many pages as there are behind those of the metas is written, of one more it is not.
func TestP21_4_Full(t *testing.T) {
	for _, l := range [][]api.Pair{alike(6, 900), alike(9, 900), stand(255, 255), stand(slices.Repeat([]int{255}, 16)...), stand(slices.Repeat([]int{255}, 17)...), alike(1000, 90)} {
		n := len(plainBulk(l).pages)
		what := fmt.Sprintf("%d pages", n)
		for _, more := range []int{0, 1, 9} {
			for _, odd := range []int{0, 7} {
				wantBulk(t, what, device.New(8*(2+n+more)+odd), l)
			}
		}
		for pages := max(4, n-3); pages < n+2; pages++ {
			wantNoBulk(t, what, device.New(8*pages+7), l, api.ErrFull)
			old := storeOf(t, pages, 3, pairs("old", "1"))
			wantNoBulk(t, what+" over a store", old, l, api.ErrFull)
			must(t, old.Write(0, slices.Repeat([]byte{1}, 1024)))
			wantNoBulk(t, what+" over pending writes", old, l, api.ErrFull)
			old.Crash(nil)
			wantNoBulk(t, what+" over a dead device", old, l, api.ErrFull)
			wantHeldBehind(t, old)
		}
	}
	wantNoBulk(t, "very many", device.New(8*300), alike(100000, 40), api.ErrFull)
}

// wantHeldBehind wants a dead device to hold its store of old still.
func wantHeldBehind(t *testing.T, d *device.Device) {
	t.Helper()
	d.Revive()
	wantHeld(t, "what stood there", d, 3, pairs("old", "1"))
}

func TestP21_4_Leaves(t *testing.T) {
	wantRows(t, "no pairs", nil)
	wantRows(t, "no pairs", []api.Pair{})
	wantRows(t, "one pair", pairs("a", "1"), 1)
	wantRows(t, "two pairs", pairs("a", "1", "b", ""), 1)
	for _, c := range []struct {
		sizes  []int
		leaves []int // how many pairs each has
	}{
		{[]int{960}, []int{1}}, {[]int{960, 960, 960, 960}, []int{4}}, {[]int{960, 960, 960, 960, 231}, []int{5}}, {[]int{960, 960, 960, 960, 232}, []int{5}}, {[]int{960, 960, 960, 960, 233}, []int{2, 3}}, {[]int{960, 960, 960, 960, 960}, []int{2, 3}}, {[]int{960, 960, 960, 960, 9}, []int{5}}, {[]int{960, 960, 960, 960, 223, 9}, []int{6}}, {[]int{960, 960, 960, 960, 224, 9}, []int{2, 4}}, {[]int{233, 960, 960, 960, 960}, []int{3, 2}},
		{[]int{900, 900, 900, 900, 900, 655}, []int{3, 3}}, {[]int{900, 900, 900, 900, 900, 656}, []int{4, 2}}, {[]int{900, 900, 900, 900, 900, 657}, []int{4, 2}}, {[]int{900, 900, 900, 900, 655, 900}, []int{3, 3}}, {[]int{900, 900, 900, 900, 656, 900}, []int{4, 2}},
		{[]int{900, 900, 900, 900, 472, 900, 655}, []int{3, 4}}, {[]int{900, 900, 900, 900, 472, 900, 656}, []int{5, 2}}, {[]int{900, 900, 900, 900, 472, 900}, []int{3, 3}}, {[]int{900, 900, 900, 900, 472, 9}, []int{2, 4}}, {[]int{960, 960, 960, 960, 232, 960, 960, 960, 960, 232}, []int{5, 5}}, {[]int{960, 960, 960, 960, 232, 960, 960, 960, 960, 232, 9}, []int{5, 2, 4}}, {[]int{960, 960, 960, 960, 232, 960, 960, 960, 960, 233}, []int{5, 2, 3}},
		{slices.Repeat([]int{9}, 452), []int{452}}, {slices.Repeat([]int{9}, 453), []int{226, 227}}, {slices.Repeat([]int{9}, 452+172), []int{312, 312}}, {slices.Repeat([]int{9}, 452+173), []int{452, 173}}, {slices.Repeat([]int{9}, 3*452+1), []int{452, 452, 226, 227}}, {slices.Repeat([]int{9}, 4*452), []int{452, 452, 452, 452}},
		{[]int{900, 900, 900, 900, 900, 900, 900, 900, 900}, []int{4, 2, 3}}, {[]int{900, 900, 900, 900, 900, 900, 900, 900, 800, 756}, []int{4, 4, 2}}, {[]int{900, 900, 900, 900, 900, 900, 900, 900, 800, 755}, []int{4, 3, 3}},
	} {
		l := sized(c.sizes...)
		what := fmt.Sprintf("%d pairs, %d bytes", len(l), sizeOf(l))
		rows := []int{len(c.leaves)}
		if len(c.leaves) > 1 {
			rows = append(rows, 1)
		}
		wantRows(t, what, l, rows...)
		var got []int
		for _, some := range plainLeaves(l) {
			got = append(got, len(some))
		}
		if !slices.Equal(got, c.leaves) {
			t.Errorf("%s: the test's own words say %v, want %v", what, got, c.leaves)
		}
	}
}

// linksOf is how many links the branches of the lowest row have.
func linksOf(l []api.Pair) []int {
	var row []kid
	for i, some := range plainLeaves(l) {
		row = append(row, kid{2 + i, some[0].Key})
	}
	var links []int
	for _, kids := range plainBranches(row) {
		links = append(links, len(kids)-1)
	}
	return links
}

func TestP21_4_Branches(t *testing.T) {
	long := func(n int) []int { return slices.Repeat([]int{255}, n) }
	for _, c := range []struct {
		what  string
		keys  []int // the bytes of the leaves' first keys
		links []int
	}{
		{"two leaves", long(2), []int{1}},
		{"16 leaves, 3936 bytes", long(16), []int{15}},
		{"a full branch", append(long(16), 129), []int{16}},
		{"a full branch, the first key is no matter", append([]int{4}, append(long(15), 129)...), []int{16}},
		{"a full branch and one byte, a first child alone", append(long(16), 130), []int{7, 8}},
		{"a first child alone", long(17), []int{7, 8}},
		{"a first child alone behind a full branch", append(long(16), 129, 4), []int{7, 9}},
		{"a last branch of one link", long(18), []int{8, 8}},
		{"a last branch of 1776 bytes", append(long(16), append(long(7), 191)...), []int{11, 11}},
		{"a last branch of 1777 bytes", append(long(16), append(long(7), 192)...), []int{15, 7}},
		{"a last branch of 1778 bytes", append(long(16), append(long(7), 193)...), []int{15, 7}},
		{"a last branch of 1776 bytes, its first key is no matter", append(long(16), append([]int{200}, append(long(6), 191)...)...), []int{11, 11}},
		{"a third branch of a first child alone", long(33), []int{15, 7, 8}},
		{"a third branch of six links", long(39), []int{15, 10, 11}},
		{"a third branch of seven links", append(long(39), 192), []int{15, 15, 7}},
		{"short keys", slices.Repeat([]int{4}, 370), []int{369}},
		{"short keys, one more leaf", slices.Repeat([]int{4}, 371), []int{184, 185}},
		{"short keys, one more leaf behind", slices.Repeat([]int{4}, 372), []int{185, 185}},
		{"short keys, a last branch of 1777 bytes", slices.Repeat([]int{4}, 370+162), []int{369, 161}},
		{"short keys, a last branch of 1766 bytes", slices.Repeat([]int{4}, 370+161), []int{264, 265}},
	} {
		l := stand(c.keys...)
		got := linksOf(l)
		if !slices.Equal(got, c.links) {
			t.Errorf("%s: the test's own words say %v links", c.what, got)
		}
		rows := []int{len(c.keys), len(got)}
		if len(got) > 1 {
			rows = append(rows, 1)
		}
		wantRows(t, c.what, l, rows...)
	}
}

// Rows of branches over branches, and the last two of an upper row cut anew.
func TestP21_4_Rows(t *testing.T) {
	for _, c := range []struct {
		leaves int
		rows   []int
	}{
		{16 * 16, []int{256, 16, 1}}, {16*16 + 1, []int{257, 17, 2, 1}}, {16*16 + 7, []int{263, 17, 2, 1}}, {16*17 + 8, []int{280, 18, 2, 1}}, {2*16*16 + 1, []int{513, 33, 3, 1}},
	} {
		wantRows(t, fmt.Sprintf("%d leaves", c.leaves), stand(slices.Repeat([]int{255}, c.leaves)...), c.rows...)
	}
}

func TestP21_4_AnyPairs(t *testing.T) {
	r, seen := rand.New(rand.NewSource(2144)), map[int]int{}
	for i := range 160 {
		l := randomPairs(r, []int{5, 60, 600, 3000}[i%4])
		n := len(plainBulk(l).pages)
		rows := wantBulk(t, fmt.Sprintf("list %d", i), device.New(8*max(4, 2+n)), l)
		seen[len(rows)]++
		if n >= 3 {
			wantNoBulk(t, fmt.Sprintf("list %d", i), device.New(8*(1+n)), l, api.ErrFull)
		}
	}
	for rows := range 4 {
		if seen[rows] < 10 && rows > 0 {
			t.Errorf("only %d of the bulks have %d rows", seen[rows], rows)
		}
	}
}

// Whatever lay on a device ahead, two bulks of the same pairs are the same bytes in their pages and in both slots.
func TestP21_6_TheSameBytes(t *testing.T) {
	r := rand.New(rand.NewSource(216))
	for _, l := range [][]api.Pair{nil, pairs("a", "1"), alike(9, 900), stand(slices.Repeat([]int{255}, 20)...), oddPairs()} {
		used := storeOf(t, 60, 3, alike(90, 200))
		junk := device.New(8 * 60)
		for at := range 8 * 60 {
			must(t, junk.Write(at, []byte(randomText(r, 512, 512))))
		}
		bulked := device.New(8*60 + 5)
		must(t, dump.Bulk(bulked, alike(50, 400)))
		var images []image
		for _, d := range []*device.Device{device.New(8 * 60), used, junk, bulked, storeOf(t, 60, 0, nil)} {
			wantBulk(t, "over something", d, l)
			must(t, dump.Bulk(d, l))
			m := imageOf(d)
			kept := map[int]string{0: m.durable[0], 8: m.durable[8]}
			for at := range 8 * len(plainBulk(l).pages) {
				kept[16+at] = m.durable[16+at]
			}
			images = append(images, image{durable: kept})
		}
		for _, m := range images[1:] {
			wantSame(t, "two bulks", m, images[0])
		}
	}
}
