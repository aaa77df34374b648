package kv_test

import (
	"fmt"
	"maps"
	"math/rand"
	"slices"
	"strings"
	"testing"
	"unsafe"

	"copse/api"
	"copse/branch"
	"copse/device"
	"copse/kv"
	"copse/leaf"
	"copse/meta"
	"copse/sheet"
	"copse/walk"
)

// wantOpenedAsWalked holds Open of a device against what layer 11 says of it; whether it holds a store.
func wantOpenedAsWalked(t *testing.T, what string, d *device.Device) bool {
	t.Helper()
	survey, fault := walk.Survey(d)
	was, since := clone(t, d), counts(d)
	w := newTwin(t, d)
	if err := w.s.Open(); err != fault {
		t.Fatalf("%s: Open = %v, want %v", what, err, fault)
	}
	now := counts(d)
	if now[1] != since[1] || now[2] != since[2] || now[0]-since[0] > d.Size()/8*8 {
		t.Fatalf("%s: %d sectors read, %d written, %d syncs", what, now[0]-since[0], now[1]-since[1], now[2]-since[2])
	}
	wantSame(t, what, d, was)
	if fault != nil {
		w.wantStatus(what)
		w.wantGoesOn()
		return false
	}
	w.m.status, w.m.holds, w.m.txid, w.m.counts = api.Opened, true, survey.Meta.Txid, contentOf(t, d)
	w.wantStatus(what)
	wantPairs(t, what, w.s, w.m.counts)
	w.wantGoesOn()
	w.do(call{name: "Format"})
	w.wantGoesOn()
	return true
}

func TestP14_7_Zeros(t *testing.T) {
	for _, sectors := range []int{0, 1, 7, 8, 31, 32, 33, 64, 1000, api.MaxSectors} {
		if wantOpenedAsWalked(t, fmt.Sprint(sectors), device.New(sectors)) {
			t.Errorf("%d sectors of zeros are a store", sectors)
		}
	}
}

func TestP14_7_Stores(t *testing.T) {
	for _, s := range shops(t) {
		d := clone(t, s.d)
		if !wantOpenedAsWalked(t, s.name, d) {
			t.Errorf("%s is no store", s.name)
		}
		for _, sectors := range []int{s.d.Size() - 8, s.d.Size()/8*8 + 7, s.d.Size() + 8} {
			l := slices.DeleteFunc(s.d.Durable(), func(x api.Sector) bool { return x.Index >= sectors })
			d, err := device.Open(sectors, l)
			must(t, err)
			if is := wantOpenedAsWalked(t, fmt.Sprint(s.name, " on ", sectors), d); is != (sectors/8 == s.meta.Pages) {
				t.Errorf("%s on %d sectors: a store: %v", s.name, sectors, is)
			}
		}
	}
}

// A store in which something was changed is one no more, but where what was changed does not count.
func TestP14_7_SpoiltStores(t *testing.T) {
	rnd := rand.New(rand.NewSource(147))
	stores, others := 0, 0
	for _, s := range shops(t) {
		for range 60 {
			l := s.d.Durable()
			for range 1 + rnd.Intn(2) {
				l = spoilt(rnd, l)
			}
			d, err := device.Open(s.d.Size(), l)
			must(t, err)
			if wantOpenedAsWalked(t, s.name, d) {
				stores++
			} else {
				others++
			}
		}
	}
	if stores < 50 || others < 50 {
		t.Errorf("%d stores, and %d that are none", stores, others)
	}
}

// spoilt is the sectors with a byte changed, one left out, one cut short, or two the other way round.
func spoilt(rnd *rand.Rand, l []api.Sector) []api.Sector {
	if len(l) == 0 {
		return l
	}
	i, j := rnd.Intn(len(l)), rnd.Intn(len(l))
	data := []byte(l[i].Data)
	switch rnd.Intn(4) {
	case 0:
		data[rnd.Intn(30)] ^= byte(1 << rnd.Intn(8))
	case 1:
		return slices.Delete(l, i, i+1)
	case 2:
		clear(data[rnd.Intn(512):])
	case 3:
		l[j].Data, data = l[i].Data, []byte(l[j].Data)
	}
	l[i].Data = string(data)
	return l
}

func TestP14_7_AnyBytes(t *testing.T) {
	rnd := rand.New(rand.NewSource(157))
	stores := 0
	for range 200 {
		sectors := 32 + rnd.Intn(60)
		d := device.New(sectors)
		p := make([]byte, 512*sectors)
		rnd.Read(p)
		must(t, d.Write(0, p))
		if rnd.Intn(3) > 0 { // with a meta that leads to them
			roots := []int{0, 2, 3, sectors/8 - 1}
			must(t, meta.Store(d, api.Meta{Pages: sectors / 8, Root: roots[rnd.Intn(4)], Txid: 1 + uint64(rnd.Intn(3))}))
		}
		if rnd.Intn(3) > 0 {
			for id := 2; id < sectors/8; id++ {
				anyPage(t, rnd, d, id)
			}
		}
		must(t, d.Sync())
		if wantOpenedAsWalked(t, "any bytes", d) {
			stores++
		}
	}
	if stores == 0 || stores > 150 {
		t.Errorf("%d stores", stores)
	}
}

// anyPage lays a page that is sound by itself.
func anyPage(t *testing.T, rnd *rand.Rand, d *device.Device, id int) {
	t.Helper()
	s := api.Sheet{Kind: api.KindLeaf, ID: id, Txid: uint64(rnd.Intn(3))}
	var err error
	if rnd.Intn(3) > 0 {
		var pairs []api.Pair
		for k := 'a' + rune(rnd.Intn(4)); k < 'v' && len(pairs) < 5; k += 1 + rune(rnd.Intn(5)) {
			pairs = append(pairs, api.Pair{Key: string(k), Value: strings.Repeat("v", rnd.Intn(701))})
		}
		s.Count = len(pairs)
		s.Body, err = leaf.Encode(pairs)
	} else {
		b := api.Branch{First: rnd.Intn(12)}
		for i := range rnd.Intn(4) {
			b.Links = append(b.Links, api.Link{Key: string(rune('c' + 4*i)), Child: rnd.Intn(12)})
		}
		s.Kind, s.Count = api.KindBranch, 1+len(b.Links)
		s.Body, err = branch.Encode(b)
	}
	if err == nil {
		must(t, sheet.Store(d, s))
	}
}

// Writes that are not synced yet are read as they stand, and a store that lies there so is opened.
func TestP14_7_Pending(t *testing.T) {
	for _, s := range shops(t) {
		d := device.New(s.d.Size())
		for _, x := range s.d.Durable() {
			must(t, d.Write(x.Index, []byte(x.Data)))
		}
		since := counts(d)
		wantFound(t, s.name, d, s.meta.Txid, s.book)
		if len(d.Durable()) != 0 || counts(d)[2] != since[2] {
			t.Errorf("%s: Open has synced", s.name)
		}
	}
}

// Two stores over one device: nothing is promised but that every call ends and none panics.
func TestP14_10_TwoOverOneDevice(t *testing.T) {
	rnd := rand.New(rand.NewSource(160))
	told := map[error]int{}
	for round := range 40 {
		d := device.New([]int{32, 64, 400, 1200}[round%4])
		two := []*kv.Store{kv.New(d), kv.New(d)}
		_ = two[0].Format()
		for range 800 {
			i := rnd.Intn(2)
			if rnd.Intn(200) == 0 {
				d.Arm(rnd.Intn(3), nil)
			}
			told[hastyCall(rnd).of(two[i]).err]++
			if two[i].Status() == api.Dead {
				d.Revive()
				two[i] = kv.New(d)
			}
		}
	}
	if told[nil] == 0 || told[api.ErrCorrupt] < 100 || told[api.ErrDead] == 0 {
		t.Errorf("what was told is %v", told)
	}
}

// hastyCall is any call; most of them let the tree grow and be committed.
func hastyCall(rnd *rand.Rand) call {
	n := rnd.Intn(60)
	switch k := rnd.Intn(90); {
	case n < 25:
		return puts(k, 1, 700)[0]
	case n < 35:
		return dels(k, 1)[0]
	case n < 50:
		return call{name: []string{"Open", "Begin", "Commit"}[n%3]}
	case n < 52 && rnd.Intn(20) > 0:
		return call{name: "Begin"}
	}
	return call{name: names[n%10], key: anyKey(rnd), limit: 1000}
}

// Somebody writes any sound pages to the device of a store that works: its calls end.
func TestP14_10_AnyPagesMeanwhile(t *testing.T) {
	rnd := rand.New(rand.NewSource(161))
	told := map[error]int{}
	for range 150 {
		w := opened(t, 8*(8+rnd.Intn(10)))
		w.work(puts(0, 12, 300)...)
		s := w.s
		beside := &twin{m: &model{}}
		for range 60 {
			if rnd.Intn(4) == 0 {
				anyPage(t, rnd, w.d, 2+rnd.Intn(6))
				_ = w.d.Sync()
			}
			beside.m.status = s.Status()
			told[anyCallOf(rnd, beside).of(s).err]++
		}
	}
	if told[nil] == 0 || told[api.ErrCorrupt] == 0 {
		t.Errorf("what was told is %v", told)
	}
}

// Somebody lays branches that share their children over a store that is open: there are more ways than anybody can go, and every call ends all the same.
func TestP14_10_MoreWaysThanAnybodyCanGo(t *testing.T) {
	for _, levels := range []int{3, 8, 40, 62} {
		w := opened(t, 8*200)
		w.work(puts(0, 5, 100)...)
		survey, err := walk.Survey(w.d)
		must(t, err)
		w.begin()
		shareChildren(t, w.d, survey.Meta.Root, levels)
		for _, to := range []string{"", "y"} {
			c := call{name: "Scan", key: "b", value: to, limit: 1000}
			if a := c.of(w.s); !a.equals(refused(api.ErrCorrupt)) {
				t.Errorf("%d levels: %v = %v", levels, c, a)
			}
		}
		for _, name := range []string{"Get", "Put", "Scan", "Put", "Delete", "Get", "Commit", "Rollback", "Get", "Begin", "Commit", "Close"} {
			call{name: name, key: "a", value: "m", limit: 1000}.of(w.s)
		}
		if err := w.s.Open(); err != api.ErrCorrupt {
			t.Errorf("%d levels: Open = %v", levels, err)
		}
	}
}

// shareChildren lays a root and, on each level below it, two branches that both lead to the two of the next level; the last are leaves without a pair from b on.
func shareChildren(t *testing.T, d *device.Device, root, levels int) {
	t.Helper()
	level := []int{root}
	for i := range levels {
		low := 10 + 2*i
		body, err := branch.Encode(api.Branch{First: low, Links: []api.Link{{Key: "m", Child: low + 1}}})
		must(t, err)
		for _, id := range level {
			must(t, sheet.Store(d, api.Sheet{Kind: api.KindBranch, ID: id, Txid: 1, Count: 2, Body: body}))
		}
		level = []int{low, low + 1}
	}
	body, err := leaf.Encode([]api.Pair{{Key: "a"}})
	must(t, err)
	for _, id := range level {
		must(t, sheet.Store(d, api.Sheet{Kind: api.KindLeaf, ID: id, Txid: 1, Count: 1, Body: body}))
	}
}

// Two stores over two devices know nothing of one another: each answers as it would alone.
func TestP14_10_TwoOverTwoDevices(t *testing.T) {
	rnd := rand.New(rand.NewSource(162))
	two := []*twin{newTwin(t, device.New(64)), newTwin(t, device.New(300))}
	for range 3000 {
		w := two[rnd.Intn(2)]
		c := anyCallOf(rnd, w)
		w.do(c)
		if rnd.Intn(100) == 0 {
			w.d.Crash(nil)
			w.do(c)
		}
		if w.m.status == api.Dead {
			w.again()
		}
	}
	for _, w := range two {
		w.wantDevice("one of two")
	}
}

// Who writes into what Scan answers, or appends to it, changes nothing else.
func TestP14_10_NewMemory(t *testing.T) {
	for _, s := range shops(t) {
		for _, working := range []bool{false, true} {
			w := twinOver(t, clone(t, s.d))
			w.do(call{name: "Open"})
			if working {
				w.begin()
				w.all([]call{put("a", "9"), put("b", "8"), put("c", "7")})
			}
			ask := []call{{name: "Scan", limit: 1000}, {name: "Scan", limit: 2}, {name: "Scan", key: "a", value: "k005", limit: 5}}
			var told [][]api.Pair
			for _, c := range ask {
				told = append(told, w.do(c).pairs)
			}
			for _, l := range told {
				spoil(l)
			}
			w.all(ask)
			w.wantGoesOn()
		}
	}
}

// spoil writes into a list and into its spare room.
func spoil(l []api.Pair) {
	l = l[:cap(l)]
	for i := range l {
		l[i] = api.Pair{Key: "spoilt", Value: "spoilt"}
	}
}

// Keys and values lie in memory that is the caller's: it is written to when the call has answered.
func TestP14_10_NothingIsKept(t *testing.T) {
	w := opened(t, 80)
	k, v := []byte("key"), []byte("value")
	w.begin()
	text := func(p []byte) string { return unsafe.String(&p[0], len(p)) }
	must(t, w.s.Put(text(k), text(v)))
	if string(k) != "key" || string(v) != "value" {
		t.Errorf("Put has changed what it was handed: %q, %q", k, v)
	}
	copy(k, "xxx")
	copy(v, "xxxxx")
	wantPairs(t, "at hand", w.s, book{"key": "value"})
	copy(k, "key")
	if had, err := w.s.Delete(text(k)); !had || err != nil {
		t.Errorf("Delete = %v, %v", had, err)
	}
	must(t, w.s.Put("key", "value"))
	must(t, w.s.Commit())
	copy(k, "xxx")
	wantHeld(t, "counting", w.d, 1, book{"key": "value"})
	f := []api.Fate{{Index: 0, Kind: api.FateKeep}}
	w.d.Crash(f)
	if !maps.Equal(contentOf(t, clone(t, w.d)), book{"key": "value"}) {
		t.Error("the device has another pair")
	}
}

// A device of eight million sectors costs what lies on it.
func TestP14_10_TheGreatestDevice(t *testing.T) {
	w := opened(t, api.MaxSectors)
	w.work(puts(0, 30, 700)...)
	w.do(call{name: "Close"})
	w.do(call{name: "Open"})
	w.wantDevice("the greatest")
}
