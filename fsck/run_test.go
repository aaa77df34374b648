package fsck_test

import (
	"fmt"
	"math/rand"
	"slices"
	"strings"
	"testing"

	"copse/api"
	"copse/branch"
	"copse/device"
	"copse/fsck"
	"copse/kv"
	"copse/leaf"
	"copse/sheet"
	"copse/walk"
)

// history is a store that is changed in transactions, and what it should hold; of each key that it ever had all values are kept.
type history struct {
	t    *testing.T
	r    *rand.Rand
	d    *device.Device
	s    *kv.Store
	book map[string]string
	ever map[api.Pair]int
	size int
}

func newHistory(t *testing.T, seed int64, pages, size int) *history {
	h := &history{t: t, r: rand.New(rand.NewSource(seed)), d: device.New(8 * pages), book: map[string]string{}, ever: map[api.Pair]int{}, size: size}
	h.s = kv.New(h.d)
	must(t, h.s.Format())
	must(t, h.s.Open())
	return h
}

func (h *history) step(keys int) {
	h.t.Helper()
	key := fmt.Sprintf("%04d", h.r.Intn(keys))
	key += strings.Repeat("k", 25*int(key[3]-'0'))
	if h.r.Intn(5) < 2 {
		_, err := h.s.Delete(key)
		must(h.t, err)
		delete(h.book, key)
		return
	}
	value := strings.Repeat(letter(h.r.Intn(26)), h.r.Intn(h.size))
	must(h.t, h.s.Put(key, value))
	h.book[key] = value
	h.ever[api.Pair{Key: key, Value: value}]++
}

// transact makes some steps and commits them, or takes them back.
func (h *history) transact(steps, keys int) {
	h.t.Helper()
	must(h.t, h.s.Begin())
	before := inOrder(h.book)
	for range steps {
		h.step(keys)
	}
	switch h.r.Intn(10) {
	case 0:
		must(h.t, h.s.Rollback())
		h.book = map[string]string{}
		for _, p := range before {
			h.book[p.Key] = p.Value
		}
	case 1:
		must(h.t, h.s.Commit())
		must(h.t, h.s.Close())
		must(h.t, h.s.Open())
	default:
		must(h.t, h.s.Commit())
	}
}

// spoilRoot makes the page of the root one that sheet.Load refuses.
func spoilRoot(t *testing.T, r *rand.Rand, d *device.Device, root int) {
	t.Helper()
	p, err := d.Read(8*root, 8)
	must(t, err)
	switch r.Intn(4) {
	case 0:
		p = make([]byte, 4096)
	case 1:
		p[r.Intn(4096)] ^= 1 << r.Intn(8)
	case 2:
		copy(p[512*r.Intn(8):], junk())
	default:
		p, err = d.Read(8*(2+r.Intn(d.Size()/8-2)), 8)
		must(t, err)
	}
	must(t, d.Write(8*root, p))
	must(t, d.Sync())
}

// If the root alone is spoilt, every pair is saved, and beside them only such as the store once had.
func TestP22_5_TheRootAlone(t *testing.T) {
	spoilt, ghosts, deep := 0, 0, 0
	for seed := range int64(6) {
		h := newHistory(t, seed, 300, []int{60, 300, 700}[seed%3])
		for i := range 25 {
			steps := []int{300, 1, 10, 40}[min(i, 1+h.r.Intn(3))]
			h.transact(steps, []int{300, 600}[seed%2])
			s, err := walk.Survey(h.d)
			must(t, err)
			d := clone(t, h.d)
			wantSound(t, "a store", d, inOrder(h.book))
			if s.Depth < 2 {
				continue
			}
			spoilRoot(t, h.r, d, s.Meta.Root)
			if _, err := sheet.Load(d, s.Meta.Root); err == nil {
				continue // it was its own page that was laid there
			}
			spoilt++
			wantFound(t, "a store whose root is spoilt", d, false, s.Meta.Root, api.FindPage)
			l, err := fsck.Salvage(d)
			must(t, err)
			book := map[string]string{}
			for _, p := range l {
				book[p.Key] = p.Value
				if h.ever[p] == 0 {
					t.Fatalf("seed %d: the store never had %s", seed, show(p))
				}
			}
			for k, v := range h.book {
				if got, ok := book[k]; !ok || got != v {
					t.Fatalf("seed %d, transaction %d: %q has %q, %v; want %q", seed, s.Meta.Txid, k, show(got), ok, show(v))
				}
			}
			if len(book) > len(h.book) {
				ghosts++
			}
			if s.Depth > 2 {
				deep++
			}
			if err := wantRepaired(t, "a store whose root is spoilt", d); err != nil {
				t.Errorf("seed %d: %v", seed, err)
			}
		}
	}
	if spoilt < 50 || ghosts < 20 || deep < 5 {
		t.Errorf("%d stores, %d of them with more than the store had, %d of three levels", spoilt, ghosts, deep)
	}
}

// A repaired device is a store like any other.
func TestP22_5_GoesOn(t *testing.T) {
	h := newHistory(t, 99, 200, 300)
	for range 10 {
		h.transact(40, 300)
	}
	s, err := walk.Survey(h.d)
	must(t, err)
	must(t, h.s.Close())
	spoilRoot(t, h.r, h.d, s.Meta.Root)
	must(t, wantRepaired(t, "a history", h.d))
	l, err := walk.Content(h.d)
	must(t, err)
	h.book = map[string]string{}
	for _, p := range l {
		h.book[p.Key] = p.Value
	}
	must(t, h.s.Open())
	for range 10 {
		h.transact(40, 300)
		wantSound(t, "goes on", clone(t, h.d), inOrder(h.book))
	}
}

// thicket is a device whose pages are branches over any others, and leaves.
func thicket(t *testing.T, r *rand.Rand, pages int) *device.Device {
	d := newDisk(t, pages)
	leaves := r.Intn(4)
	for id := 2; id < pages; id++ {
		if r.Intn(4) < leaves {
			key := letter(r.Intn(26))
			d.leaf(id, uint64(r.Intn(4)), big(key, key+"1", key+"2")[:1+r.Intn(3)])
			continue
		}
		kids := r.Perm(pages)[:min(pages, 2+r.Intn(8))]
		var keys []string
		for j := range kids {
			kids[j] += 2
			keys = append(keys, long(letter(r.Intn(4)+2*j)+letter(j)))
		}
		keys = keys[1:]
		slices.Sort(keys)
		d.branch(id, uint64(r.Intn(4)), over(kids, keys...))
	}
	return d.meta(2+r.Intn(pages-2), 2).synced().Device
}

// reseal changes what stands in a page, if it is one, and seals it anew.
func reseal(d *device.Device, id int, change func(s *api.Sheet)) {
	s, err := sheet.Load(d, id)
	if err != nil {
		return
	}
	change(&s)
	if p, err := sheet.Seal(s); err == nil {
		_ = d.Write(8*id, p)
	}
}

func changeNode(r *rand.Rand, s *api.Sheet, pages int) {
	if l, err := leaf.Decode(s.Count, s.Body); err == nil && s.Kind == api.KindLeaf {
		i := r.Intn(len(l))
		switch r.Intn(3) {
		case 0:
			l = l[:i+1]
		case 1:
			l[i].Key = letter(r.Intn(26)) + l[i].Key
		default:
			l[i].Value = "changed"
		}
		if body, err := leaf.Encode(l); err == nil {
			s.Count, s.Body = len(l), body
		}
		return
	}
	if b, err := branch.Decode(s.Count, s.Body); err == nil && s.Kind == api.KindBranch {
		i := r.Intn(len(b.Links))
		switch r.Intn(4) {
		case 0:
			b.Links = b.Links[:i+1]
		case 1:
			b.Links[i].Key = letter(r.Intn(26))
		case 2:
			b.Links[i].Child = 2 + r.Intn(pages)
		default:
			b.First = 2 + r.Intn(pages)
		}
		if body, err := branch.Encode(b); err == nil {
			s.Count, s.Body = len(b.Links)+1, body
		}
	}
}

// spoil changes something on a device.
func spoil(r *rand.Rand, d *device.Device) {
	pages := d.Size() / 8
	id := 2 + r.Intn(pages-2)
	switch r.Intn(9) {
	case 0:
		_ = d.Write(8*id+r.Intn(8), make([]byte, 512))
	case 1:
		sector := 8*id + r.Intn(8)
		p, _ := d.Read(sector, 1)
		p[r.Intn(512)] ^= 1 << r.Intn(8)
		_ = d.Write(sector, p)
	case 2:
		p, _ := d.Read(8*(2+r.Intn(pages-2)), 8)
		_ = d.Write(8*id, p)
	case 3:
		reseal(d, id, func(s *api.Sheet) { s.Txid = []uint64{0, 1, s.Txid + 1, 1 << 40}[r.Intn(4)] })
	case 4:
		reseal(d, id, func(s *api.Sheet) { s.Count += r.Intn(3) - 1 })
	case 5:
		reseal(d, id, func(s *api.Sheet) { s.Kind = []int{api.KindLeaf, api.KindBranch}[r.Intn(2)] })
	case 6, 7:
		reseal(d, id, func(s *api.Sheet) { changeNode(r, s, pages) })
	default:
		spoilSlot(r, d, pages)
	}
}

func spoilSlot(r *rand.Rand, d *device.Device, pages int) {
	at := 8 * r.Intn(2)
	switch r.Intn(4) {
	case 0:
		_ = d.Write(at, junk())
	case 1:
		_ = d.Write(at, make([]byte, 512))
	default:
		txid := uint64(r.Intn(20))
		_ = d.Write(int(8*(txid%2)), plainMeta(pages, []int{0, 2 + r.Intn(pages-2)}[r.Intn(2)], txid))
	}
}

// spoilable are devices that are stores, or nearly so.
func spoilable(t *testing.T, r *rand.Rand) []*device.Device {
	small, tall := newHistory(t, r.Int63(), 60, 100), newHistory(t, r.Int63(), 150, 500)
	for range 6 {
		small.transact(10, 50)
		tall.transact(50, 300)
	}
	return []*device.Device{newWood().lay(t).Device, small.d, tall.d, chain(t, 6+r.Intn(4), 20+r.Intn(25)).Device, thicket(t, r, 30)}
}

// Over many spoilt devices: sound just if it can be a store, a meta counts and nothing was found at a page of 0 or above; and one that is not sound has a finding.
func TestP22_2_SpoiltDevices(t *testing.T) {
	r := rand.New(rand.NewSource(222))
	seen, sound, unsound := map[int]int{}, 0, 0
	for range 5 {
		for _, was := range spoilable(t, r) {
			for range 40 {
				d := clone(t, was)
				for range r.Intn(6) {
					spoil(r, d)
				}
				report, _ := wantAsPlain(t, "a spoilt device", d)
				_, counts := plainCounts(d)
				right := plainCan(d) && counts && !slices.ContainsFunc(report.Findings, func(f api.Finding) bool { return f.Page >= 0 })
				if report.Sound != right || !report.Sound && len(report.Findings) == 0 {
					t.Errorf("sound %v, a meta counts: %v, %v", report.Sound, counts, report.Findings)
				}
				if report.Sound {
					sound++
				} else {
					unsound++
				}
				for _, f := range report.Findings {
					seen[f.What]++
				}
			}
		}
	}
	for what := api.FindMeta; what <= api.FindDepth; what++ {
		if seen[what] < 20 {
			t.Errorf("the finding %d was seen %d times", what, seen[what])
		}
	}
	if sound < 100 || unsound < 400 {
		t.Errorf("%d sound devices, %d that are not", sound, unsound)
	}
}

func TestP22_5_SpoiltDevices(t *testing.T) {
	r := rand.New(rand.NewSource(225))
	full, mended := 0, 0
	for range 3 {
		for _, was := range spoilable(t, r) {
			for range 20 {
				d := clone(t, was)
				for range r.Intn(6) {
					spoil(r, d)
				}
				must(t, d.Sync())
				switch err := wantRepaired(t, "a spoilt device", d); err {
				case nil:
					mended++
				case api.ErrFull:
					full++
				default:
					t.Errorf("Repair: %v", err)
				}
			}
		}
	}
	if mended < 150 {
		t.Errorf("%d mended, %d full", mended, full)
	}
}
