package fsck_test

import (
	"fmt"
	"math/rand"
	"slices"
	"strings"
	"testing"

	"copse/api"
	"copse/device"
	"copse/fsck"
)

// wantFewReads wants that no page is read often, however many links lead to it, and that nothing is written.
func wantFewReads(t *testing.T, what string, d *device.Device) {
	t.Helper()
	pages := d.Size() / 8
	r0, w0, s0 := d.Counts()
	_, _ = fsck.Examine(d)
	r1, _, _ := d.Counts()
	_, _ = fsck.Salvage(d)
	r2, w2, s2 := d.Counts()
	if most := 10 + 2*8*pages; r1-r0 > most || r2-r1 > most {
		t.Errorf("%s: of %d pages Examine read %d sectors, Salvage %d; want at most %d", what, pages, r1-r0, r2-r1, most)
	}
	if w2 != w0 || s2 != s0 {
		t.Errorf("%s: %d sectors were written, %d syncs", what, w2-w0, s2-s0)
	}
}

func TestP22_6_Reads(t *testing.T) {
	r := rand.New(rand.NewSource(226))
	for what, d := range spoilt(t) {
		wantFewReads(t, what, d.Device)
	}
	wantFewReads(t, "the wood", newWood().lay(t).Device)
	for range 60 {
		wantFewReads(t, "a thicket", thicket(t, r, 3+r.Intn(60)))
	}
	for n := range 40 {
		wantFewReads(t, "too small", device.New(n))
	}
}

// Pages to which hundreds of links lead are found as often, and read no more than any others.
func TestP22_6_ManyLinks(t *testing.T) {
	const branches = 350 // each over all of them
	d := newDisk(t, 2+branches).meta(2, 1)
	for id := 2; id < 2+branches; id++ {
		var to []int
		var keys []string
		for i := range branches {
			to, keys = append(to, 2+(id+i)%branches), append(keys, fmt.Sprintf("%03d", i))
		}
		d.branch(id, 1, over(to, keys[1:]...))
	}
	wantFewReads(t, "branches of many children", d.Device)
	r, err := fsck.Examine(d.Device)
	visits := branches // that read a page
	seen := map[int]int{}
	for _, f := range r.Findings {
		if f.What == api.FindTwice || f.What == api.FindDepth {
			visits++
			seen[f.Page]++
		}
	}
	if want := 1 + branches*branches; err != nil || r.Sound || visits != want || len(seen) != branches {
		t.Errorf("%v, sound %v, %d visits of %d pages; want %d of %d", err, r.Sound, visits, len(seen), want, branches)
	}
}

// Examine and Salvage are no operations: an arm does not go off, and is not lowered.
func TestP22_6_Arms(t *testing.T) {
	for what, d := range spoilt(t) {
		d.synced()
		d.Arm(0, nil)
		wantAsPlain(t, what, d.Device)
		if d.Dead() {
			t.Errorf("%s: the power has failed", what)
		}
		if err := d.Write(8, junk()); err != api.ErrDead {
			t.Errorf("%s: the arm is gone: %v", what, err)
		}
	}
}

func randomBytes(r *rand.Rand, n int) []byte {
	p := make([]byte, n)
	r.Read(p)
	return p
}

// Any bytes on a device of any size: every call ends, and what it answers is what the chapter's words say.
func TestP22_7_AnyBytes(t *testing.T) {
	r := rand.New(rand.NewSource(227))
	for i := range 300 {
		d := device.New(r.Intn(120))
		for sector := range d.Size() {
			if r.Intn(3) > 0 {
				must(t, d.Write(sector, randomBytes(r, 512)))
			}
		}
		if pages := d.Size() / 8; pages >= 4 && i%3 > 0 {
			txid := uint64(r.Intn(5))
			must(t, d.Write(int(8*(txid%2)), plainMeta(pages, 2+r.Intn(pages-2), txid)))
			for range r.Intn(8) {
				layAny(t, r, d, 2+r.Intn(pages-2))
			}
		}
		if i%2 == 0 {
			must(t, d.Sync())
		}
		if i%20 == 0 {
			d.Crash(nil)
		}
		wantAsPlain(t, "any bytes", d)
		wantFewReads(t, "any bytes", d)
		if i%2 == 0 {
			_ = wantRepaired(t, "any bytes", d)
		}
	}
}

// layAny lays a page with a right sum and any body, or one that is nearly a node's.
func layAny(t *testing.T, r *rand.Rand, d *device.Device, id int) {
	body := string(randomBytes(r, 4072))
	if r.Intn(2) == 0 {
		body = "\x00\x07\x01\x00\x01a1" + strings.Repeat("\x00", 4065)
	}
	s := api.Sheet{Kind: []int{api.KindLeaf, api.KindBranch}[r.Intn(2)], ID: id, Txid: uint64(r.Intn(5)), Count: r.Intn(3), Body: body}
	(&disk{d, t, d.Size() / 8}).page(id, s)
}

// fill writes over a list and the room behind it.
func fill[T any](l []T, by T) {
	wide := l[:cap(l)]
	for i := range wide {
		wide[i] = by
	}
}

// What is answered is new memory: who writes into it, or appends to it, changes no later answer, and no other list of the same one.
func TestP22_7_NewMemory(t *testing.T) {
	all := spoilt(t)
	all["the wood"] = newWood().lay(t)
	all["the wood and a spoilt slot"] = newWood().lay(t).write(0, junk())
	for what, d := range all {
		want, pairs := wantAsPlain(t, what, d.Device)
		want.Findings, want.Survey.Pages, pairs = slices.Clone(want.Findings), slices.Clone(want.Survey.Pages), slices.Clone(pairs)
		before := imageOf(d.Device)
		r, err := fsck.Examine(d.Device)
		must(t, err)
		fill(r.Survey.Pages, -7)
		if !slices.Equal(r.Findings, want.Findings) {
			t.Errorf("%s: the lists of one report share memory", what)
		}
		fill(r.Findings, api.Finding{Page: 7, What: 7})
		l, err := fsck.Salvage(d.Device)
		must(t, err)
		fill(l, api.Pair{Key: "scrawl", Value: "scrawl"})
		_, _, _ = append(r.Findings, api.Finding{}), append(r.Survey.Pages, 1), append(l, api.Pair{})
		again, err := fsck.Examine(d.Device)
		if err != nil || !sameReport(again, want) {
			t.Errorf("%s: asked again: %v, %v; want %v", what, again, err, want)
		}
		l, err = fsck.Salvage(d.Device)
		if err != nil || !slices.Equal(l, pairs) || !imageOf(d.Device).same(before) {
			t.Errorf("%s: asked again: %s, %v; want %s", what, show(l), err, show(pairs))
		}
		if n, err := fsck.Repair(d.Device); n != len(pairs) || err != nil {
			t.Errorf("%s: Repair: %d, %v", what, n, err)
		}
		if !slices.Equal(l, pairs) {
			t.Errorf("%s: what Salvage answered has heard of a Repair", what)
		}
	}
}

// The same calls have the same answers, and leave the same bytes (P0.2).
func TestP22_7_AskedTwice(t *testing.T) {
	r := rand.New(rand.NewSource(2271))
	for range 10 {
		for _, was := range spoilable(t, r) {
			d := clone(t, was)
			for range 1 + r.Intn(5) {
				spoil(r, d)
			}
			must(t, d.Sync())
			first, second := clone(t, d), clone(t, d)
			for _, at := range []*device.Device{first, second} {
				wantAsPlain(t, "a spoilt device", at)
				_, _ = fsck.Repair(at)
			}
			if !imageOf(first).same(imageOf(second)) {
				t.Error("two Repairs of one device differ")
			}
		}
	}
}
