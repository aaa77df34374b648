package kv_test

import (
	"fmt"
	"math"
	"slices"
	"strings"
	"testing"

	"copse/api"
	"copse/device"
	"copse/kv"
	"copse/meta"
	"copse/walk"
)

// lastShop is a store behind whose transaction there is no further one.
func lastShop(t *testing.T) *twin {
	t.Helper()
	d := device.New(80)
	must(t, meta.Store(d, api.Meta{Pages: 10, Txid: math.MaxUint64}))
	must(t, d.Sync())
	w := twinOver(t, d)
	w.do(call{name: "Open"})
	return w
}

// inStatus are stores in that status, got there in different ways.
func inStatus(t *testing.T, status int) []*twin {
	t.Helper()
	filled := func() *twin {
		w := opened(t, 64)
		w.work(put("a", "1"), put("b", "2"))
		return w
	}
	w := filled()
	switch status {
	case api.Closed:
		w.do(call{name: "Close"})
		formatted := newTwin(t, device.New(64))
		formatted.do(call{name: "Format"})
		return []*twin{w, newTwin(t, device.New(64)), formatted}
	case api.Opened:
		return []*twin{w, opened(t, 64)}
	case api.Working:
		w.begin()
		w.all([]call{put("a", "3"), put("c", "4"), del("b")})
		idle := filled()
		idle.begin()
		return []*twin{w, idle}
	case api.Broken:
		w.begin()
		w.all(puts(0, 40, 700))
		w.commit()
		last := lastShop(t)
		last.begin()
		last.all([]call{put("a", "3")})
		last.commit()
		return []*twin{w, last}
	case api.Dead:
		w.d.Crash(nil)
		w.do(call{name: "Open"})
		w.d.Revive()
		return []*twin{w}
	}
	panic(status)
}

// eachStatus runs over the stores of every status; each is made anew for each use.
func eachStatus(t *testing.T, use func(what string, fresh func() *twin)) {
	t.Helper()
	for status := api.Closed; status <= api.Dead; status++ {
		for i, w := range inStatus(t, status) {
			if w.s.Status() != status {
				t.Fatalf("a store of the status %s is %s", statusNames[status], statusNames[w.s.Status()])
			}
			use(fmt.Sprint(statusNames[status], " ", i), func() *twin { return inStatus(t, status)[i] })
		}
	}
}

func TestP14_1_New(t *testing.T) {
	for _, sectors := range []int{0, 7, 31, 32, 80, api.MaxSectors} {
		d := device.New(sectors)
		s := kv.New(d)
		if s.Status() != api.Closed || s.Txid() != 0 {
			t.Errorf("%d sectors: %d, %d", sectors, s.Status(), s.Txid())
		}
		if counts(d) != [3]int{} {
			t.Errorf("%d sectors: New has read or written", sectors)
		}
	}
	for _, s := range shops(t) {
		since := counts(s.d)
		if k := kv.New(s.d); k.Status() != api.Closed || k.Txid() != 0 || counts(s.d) != since {
			t.Errorf("%s: New is %d, %d", s.name, k.Status(), k.Txid())
		}
		s.d.Crash(nil)
		if k := kv.New(s.d); k.Status() != api.Closed || k.Txid() != 0 {
			t.Errorf("%s, dead: New is %d, %d", s.name, k.Status(), k.Txid())
		}
	}
}

func TestP14_1_StatusAndTxid(t *testing.T) {
	for _, s := range shops(t) {
		if s.meta.Txid == 0 {
			continue
		}
		for _, last := range []uint64{s.meta.Txid, math.MaxUint64} {
			m := s.meta
			m.Txid = last
			d := clone(t, s.d)
			must(t, meta.Store(d, m))
			must(t, d.Sync())
			k := kv.New(d)
			say := func(status int, txid uint64) {
				t.Helper()
				if k.Status() != status || k.Txid() != txid {
					t.Errorf("%s: %s, transaction %d, want %s, %d", s.name, statusNames[k.Status()], k.Txid(), statusNames[status], txid)
				}
			}
			must(t, k.Open())
			say(api.Opened, last)
			must(t, k.Begin())
			say(api.Working, last)
			if err := k.Commit(); err == api.ErrTxid {
				say(api.Broken, math.MaxUint64)
			} else {
				must(t, err)
				say(api.Opened, last+1)
			}
			must(t, k.Close())
			say(api.Closed, 0)
			d.Crash(nil)
			say(api.Closed, 0)
			if err := k.Open(); err != api.ErrDead {
				t.Errorf("%s: Open: %v", s.name, err)
			}
			say(api.Dead, 0)
		}
	}
}

// Status and Txid ask nothing of the device: they say what was, till one of the other calls has come.
func TestP14_1_ADeadDeviceIsNotSeen(t *testing.T) {
	eachStatus(t, func(what string, fresh func() *twin) {
		w := fresh()
		since := counts(w.d)
		w.d.Crash(nil)
		w.wantStatus(what)
		w.d.Revive()
		w.wantStatus(what)
		if counts(w.d) != since {
			t.Errorf("%s: Status or Txid has read or written", what)
		}
	})
}

func TestP14_2_EveryCallInEveryStatus(t *testing.T) {
	eachStatus(t, func(what string, fresh func() *twin) {
		for _, c := range everyCall() {
			w := fresh()
			a, status := w.do(c), w.m.status
			if !slices.Contains(mayCome[c.name], statusOf(what)) && a.err != api.ErrStatus && statusOf(what) != api.Dead {
				t.Errorf("%s: %v = %v", what, c, a)
			}
			if a.err == api.ErrStatus && status != statusOf(what) {
				t.Errorf("%s: %v: %s", what, c, statusNames[status])
			}
			w.wantGoesOn()
		}
	})
}

func statusOf(what string) int {
	return slices.Index(statusNames, strings.Fields(what)[0])
}

// wantGoesOn holds what is at hand against the model, goes back to Opened, if it can, and does some work there.
func (w *twin) wantGoesOn() {
	w.t.Helper()
	look := []call{{name: "Scan", limit: 1000}, {name: "Get", key: "a"}, {name: "Get", key: "b"}, {name: "Get", key: "c"}}
	w.all(look)
	for _, name := range []string{"Rollback", "Open"} {
		w.do(call{name: name})
		w.all(look)
	}
	w.begin()
	w.all([]call{put("c", "5"), del("a")})
	w.all(look)
	w.commit()
	w.all(look)
	if w.m.holds {
		w.d.Revive()
		w.wantDevice("going on")
	}
}

func TestP14_2_TheStatusBehindIt(t *testing.T) {
	behind := map[string]int{"Format": api.Closed, "Open": api.Opened, "Close": api.Closed, "Begin": api.Working, "Put": api.Working, "Delete": api.Working, "Commit": api.Opened, "Rollback": api.Opened}
	for _, name := range names {
		for _, status := range mayCome[name] {
			w := inStatus(t, status)[0]
			if a := (call{name: name, key: "a", value: "1", limit: 9}).of(w.s); a.err != nil {
				t.Fatalf("%s in %s: %v", name, statusNames[status], a)
			}
			want, is := behind[name]
			if !is {
				want = status
			}
			if w.s.Status() != want {
				t.Errorf("%s in %s: %s, want %s", name, statusNames[status], statusNames[w.s.Status()], statusNames[want])
			}
		}
	}
}

// wrongCalls may not be, whatever the status.
func wrongCalls() []call {
	return []call{put("", "1"), put(strings.Repeat("k", 256), "1"), put("a", strings.Repeat("v", 701)), del(""), del(strings.Repeat("k", 256)),
		{name: "Get"}, {name: "Get", key: strings.Repeat("k", 256)}, {name: "Scan", limit: -1}, {name: "Scan", limit: 1001}}
}

func TestP14_2_DeadFirstOfAll(t *testing.T) {
	eachStatus(t, func(what string, fresh func() *twin) {
		for _, c := range append(everyCall(), wrongCalls()...) {
			w := fresh()
			was := clone(t, w.d)
			w.d.Crash(nil)
			if a := w.do(c); a.err != api.ErrDead {
				t.Errorf("%s: %v = %v", what, c, a)
			}
			wantDead(t, what, w.s)
			w.d.Revive()
			wantDead(t, what+", revived", w.s)
			for _, c := range wrongCalls() {
				w.do(c)
			}
			wantSame(t, what, w.d, was)
			w.again()
			w.wantGoesOn()
		}
	})
}

// A device that was dead and is alive again ahead of the next call has lost nothing: the store goes on.
func TestP14_2_DeadInBetween(t *testing.T) {
	eachStatus(t, func(what string, fresh func() *twin) {
		for _, c := range everyCall() {
			w := fresh()
			w.d.Crash([]api.Fate{{Index: 0, Kind: api.FateKeep}})
			w.d.Revive()
			w.do(c)
			w.wantGoesOn()
		}
	})
}

// A device too small for a store is dead as any other one.
func TestP14_2_ASmallDeviceIsDead(t *testing.T) {
	for _, sectors := range []int{0, 31, api.MaxSectors} {
		for _, c := range everyCall() {
			w := newTwin(t, device.New(sectors))
			w.d.Crash(nil)
			w.do(c)
			w.d.Revive()
			wantDead(t, sectors, w.s)
		}
	}
}

func TestP14_3_Edges(t *testing.T) {
	text := func(n int) string { return strings.Repeat("x", n) }
	for _, w := range inStatus(t, api.Working) {
		for _, key := range []int{0, 1, 2, 254, 255, 256, 257, 5000} {
			for _, value := range []int{0, 1, 699, 700, 701, 5000} {
				want := error(nil)
				if key < 1 || key > 255 || value > 700 {
					want = api.ErrArg
				}
				if a := w.do(put(text(key), text(value))); a.err != want {
					t.Errorf("Put of %d and %d bytes: %v, want %v", key, value, a.err, want)
				}
				w.do(call{name: "Scan", limit: 9})
			}
			want := error(nil)
			if key < 1 || key > 255 {
				want = api.ErrArg
			}
			for _, c := range []call{{name: "Get", key: text(key)}, del(text(key)), del(text(key)), {name: "Get", key: text(key)}} {
				if a := w.do(c); a.err != want {
					t.Errorf("%s of %d bytes: %v, want %v", c.name, key, a.err, want)
				}
			}
		}
		w.commit()
		w.wantDevice("edges")
	}
}

func TestP14_3_Limits(t *testing.T) {
	w := opened(t, 8*300)
	var l []call
	for i := range 1200 {
		l = append(l, put(fmt.Sprintf("%04d", i), "v"))
	}
	w.begin()
	for _, status := range []int{api.Working, api.Opened} {
		for limit, want := range map[int]error{math.MinInt: api.ErrArg, -1: api.ErrArg, 0: nil, 1: nil, 999: nil, 1000: nil, 1001: api.ErrArg, math.MaxInt: api.ErrArg} {
			for _, from := range []string{"", "0100", "0700", long("z"), strings.Repeat("z", 9000)} {
				for _, to := range []string{"", "0100", "0150", "2", strings.Repeat("0", 9000)} {
					a := w.do(call{name: "Scan", key: from, value: to, limit: limit})
					if a.err != want {
						t.Errorf("Scan of %d: %v, want %v", limit, a.err, want)
					}
				}
			}
		}
		if w.m.status != status {
			t.Errorf("%s, want %s", statusNames[w.m.status], statusNames[status])
		}
		w.all(l)
		l = nil
		w.commit()
	}
	if a := w.do(call{name: "Scan", limit: 1000}); len(a.pairs) != 1000 || a.pairs[999].Key != "0999" {
		t.Errorf("%d pairs", len(a.pairs))
	}
}

func TestP14_3_StatusAheadOfArguments(t *testing.T) {
	eachStatus(t, func(what string, fresh func() *twin) {
		for _, c := range wrongCalls() {
			w := fresh()
			want := api.ErrStatus
			switch status := statusOf(what); {
			case status == api.Dead:
				want = api.ErrDead
			case slices.Contains(mayCome[c.name], status):
				want = api.ErrArg
			}
			if a := w.do(c); a.err != want || w.m.status != statusOf(what) {
				t.Errorf("%s: %v = %v, want %v", what, c, a, want)
			}
			w.wantGoesOn()
		}
	})
}

func TestP14_4_Format(t *testing.T) {
	for sectors := range 40 {
		w := newTwin(t, device.New(sectors))
		want := error(nil)
		if sectors < 32 {
			want = api.ErrArg
		}
		for range 2 {
			if a := w.do(call{name: "Format"}); a.err != want || w.m.status != api.Closed {
				t.Errorf("%d sectors: %v", sectors, a)
			}
			w.do(call{name: "Open"})
		}
	}
	w := newTwin(t, device.New(api.MaxSectors))
	w.do(call{name: "Format"})
	w.do(call{name: "Open"})
	w.work(put("a", "1"))
	for _, s := range shops(t) {
		want := clone(t, s.d)
		for _, o := range s.formatOps(t) {
			must(t, o.do(want))
		}
		for _, open := range []bool{false, true} {
			w := twinOver(t, clone(t, s.d))
			if open {
				w.do(call{name: "Open"})
			}
			if a := w.do(call{name: "Format"}); a.err != nil || w.s.Status() != api.Closed || w.s.Txid() != 0 {
				t.Errorf("%s: %v", s.name, a)
			}
			wantSame(t, s.name, w.d, want)
			w.do(call{name: "Get", key: "a"})
			w.do(call{name: "Open"})
			w.wantDevice(s.name)
			w.wantGoesOn()
		}
	}
}

func TestP14_4_OpenAndClose(t *testing.T) {
	w := newTwin(t, device.New(80))
	w.do(call{name: "Open"}) // zeros
	for _, s := range shops(t) {
		w := twinOver(t, s.d)
		for range 3 {
			w.do(call{name: "Open"})
			wantPairs(t, s.name, w.s, s.book)
			w.do(call{name: "Close"})
		}
		since := counts(s.d)
		w.do(call{name: "Close"})
		w.do(call{name: "Get", key: "a"})
		if counts(s.d) != since {
			t.Errorf("%s: a store that is Closed has read", s.name)
		}
	}
}

// What a transaction does is seen in it alone, till it is committed.
func TestP14_4_WorkIsDropped(t *testing.T) {
	ways := [][]string{{"Rollback"}, {"Close", "Open"}, {"Commit"}, {"Rollback", "Close", "Open"}}
	for _, s := range shops(t) {
		for _, way := range ways {
			for _, l := range works() {
				w := twinOver(t, clone(t, s.d))
				w.do(call{name: "Open"})
				w.begin()
				w.all(l.calls)
				at := w.m.hand
				wantPairs(t, s.name, w.s, at)
				for _, name := range way {
					w.do(call{name: name})
				}
				want := s.book
				if way[0] == "Commit" {
					want = at
				}
				wantPairs(t, s.name, w.s, want)
				w.begin()
				wantPairs(t, s.name, w.s, want)
				w.wantDevice(s.name)
				w.rollback()
				wantPairs(t, s.name, w.s, want)
			}
		}
	}
}

// work is what is done in a transaction.
type work struct {
	name  string
	calls []call
}

// works are changes of no, of one and of many nodes.
func works() []work {
	return []work{
		{"nothing", nil},
		{"one pair", []call{put("a", "2")}},
		{"the very pair", []call{put("a", "1")}},
		{"two far apart", append(puts(2, 1, 650), puts(40, 1, 650)...)},
		{"many", puts(0, 19, 300)},
		{"some go", dels(3, 9)},
		{"all go", append(dels(0, 60), del("a"), del("b"))},
		{"put and gone", []call{put("zz", "1"), del("zz")}},
	}
}

func TestP14_4_CallByCall(t *testing.T) {
	w := opened(t, 80)
	get := func(key string) call { return call{name: "Get", key: key} }
	scan := func(from, to string, limit int) call {
		return call{name: "Scan", key: from, value: to, limit: limit}
	}
	w.begin()
	for i, c := range []struct {
		call
		want answer
	}{
		{get("a"), answer{}},
		{del("a"), answer{}},
		{put("b", "2"), answer{}},
		{get("b"), answer{value: "2", is: true}},
		{put("b", ""), answer{}},
		{get("b"), answer{is: true}},
		{put("a", "1"), answer{}},
		{put("c\x00", "3"), answer{}},
		{scan("", "", 9), answer{pairs: []api.Pair{{Key: "a", Value: "1"}, {Key: "b"}, {Key: "c\x00", Value: "3"}}}},
		{scan("", "", 2), answer{pairs: []api.Pair{{Key: "a", Value: "1"}, {Key: "b"}}}},
		{scan("a", "b", 9), answer{pairs: []api.Pair{{Key: "a", Value: "1"}}}},
		{scan("a\x00", "c", 9), answer{pairs: []api.Pair{{Key: "b"}}}},
		{scan("c", "", 9), answer{pairs: []api.Pair{{Key: "c\x00", Value: "3"}}}},
		{scan("c", "c\x00", 9), answer{}},
		{scan("b", "b", 9), answer{}},
		{scan("b", "a", 9), answer{}},
		{scan("d", "", 9), answer{}},
		{scan("", "", 0), answer{}},
		{del("b"), answer{is: true}},
		{del("b"), answer{}},
		{get("b"), answer{}},
	} {
		if a := w.do(c.call); !a.equals(c.want) {
			t.Errorf("%d: %v = %v, want %v", i, c.call, a, c.want)
		}
	}
	w.commit()
	w.wantDevice("call by call")
}

func TestP14_4_NoRoom(t *testing.T) {
	for _, way := range []string{"Rollback", "Close"} {
		w := opened(t, 64) // six pages
		w.work(put("a", "1"), put("b", "2"))
		was := clone(t, w.d)
		for range 3 {
			w.begin()
			w.all(append(puts(0, 40, 700), del("a")))
			if err := w.commit(); err != api.ErrFull || w.s.Status() != api.Broken || w.s.Txid() != 1 {
				t.Fatalf("Commit = %v, %s, %d", err, statusNames[w.s.Status()], w.s.Txid())
			}
			wantSame(t, "full", w.d, was)
			w.all([]call{{name: "Commit"}, {name: "Get", key: "a"}, {name: "Scan"}, put("a", "1"), del("a"), {name: "Begin"}, {name: "Open"}, {name: "Format"}})
			wantFound(t, "full", w.d, 1, book{"a": "1", "b": "2"})
			w.do(call{name: way})
			if way == "Close" {
				w.do(call{name: "Open"})
			}
			wantPairs(t, way, w.s, book{"a": "1", "b": "2"})
		}
		w.work(put("c", "3"), del("a"))
		w.wantDevice("behind it")
	}
}

func TestP14_4_NoNumber(t *testing.T) {
	for _, l := range works() {
		w := lastShop(t)
		was := clone(t, w.d)
		for _, way := range []string{"Rollback", "Close"} {
			w.begin()
			w.all(l.calls)
			if err := w.commit(); err != api.ErrTxid || w.s.Status() != api.Broken || w.s.Txid() != math.MaxUint64 {
				t.Fatalf("%s: %v, %s, %d", l.name, err, statusNames[w.s.Status()], w.s.Txid())
			}
			wantSame(t, l.name, w.d, was)
			w.do(call{name: way})
			w.do(call{name: "Open"})
			wantPairs(t, l.name, w.s, book{})
		}
		w.do(call{name: "Format"})
		w.do(call{name: "Open"})
		w.work(put("a", "1"))
		w.wantDevice("from 0 on")
	}
	// The one ahead of it has a number, and no number comes ahead of no room.
	d := device.New(80)
	must(t, meta.Store(d, api.Meta{Pages: 10, Txid: math.MaxUint64 - 1}))
	must(t, d.Sync())
	w := twinOver(t, d)
	w.do(call{name: "Open"})
	w.work(put("a", "1"))
	w.begin()
	w.all(puts(0, 60, 700))
	if err := w.commit(); err != api.ErrTxid {
		t.Errorf("Commit = %v", err)
	}
}

// Where somebody else has written to the device, calls answer ErrCorrupt and nothing beside it, and the store is as it was.
func TestP14_4_SomebodyElseWrote(t *testing.T) {
	told := 0
	for _, s := range shops(t) {
		survey, err := walk.Survey(s.d)
		must(t, err)
		for i, id := range survey.Pages {
			if i > 12 && i%4 > 0 { // enough of their kind
				continue
			}
			for _, working := range []bool{false, true} {
				d := clone(t, s.d)
				k := wantFound(t, s.name, d, s.meta.Txid, s.book)
				if working {
					must(t, k.Begin())
				}
				page, err := d.Read(8*id, 8)
				must(t, err)
				must(t, d.Write(8*id, make([]byte, 4096)))
				must(t, d.Sync())
				told += askAll(t, s, k, working)
				must(t, d.Write(8*id, page))
				must(t, d.Sync())
				wantPairs(t, s.name, k, s.book)
				if working {
					must(t, k.Put("a", "restored"))
					must(t, k.Commit())
				}
			}
		}
	}
	if told < 1000 {
		t.Errorf("ErrCorrupt was told %d times", told)
	}
}

// askAll makes calls that may meet a page that is none, and tells how many did.
func askAll(t *testing.T, s shop, k *kv.Store, working bool) int {
	t.Helper()
	status, told := k.Status(), 0
	ask := []call{{name: "Scan", limit: 1000}}
	for _, p := range s.book.pairs() {
		ask = append(ask, call{name: "Get", key: p.Key}, call{name: "Scan", key: p.Key, limit: 1})
	}
	for _, c := range ask {
		switch a := c.of(k); {
		case a.equals(refused(api.ErrCorrupt)):
			told++
		case a.err != nil:
			t.Fatalf("%s: %v = %v", s.name, c, a)
		}
		if k.Status() != status || k.Txid() != s.meta.Txid {
			t.Fatalf("%s: behind %v %s, %d", s.name, c, statusNames[k.Status()], k.Txid())
		}
	}
	if a := (call{name: "Get"}).of(k); a.err != api.ErrArg {
		t.Fatalf("%s: Get of no key = %v", s.name, a)
	}
	if !working {
		return told
	}
	for _, p := range s.book.pairs() { // a change that comes through is taken back, so that the pairs stay
		for _, c := range []call{put(p.Key, p.Value), del(p.Key), put(p.Key, p.Value)} {
			switch a := c.of(k); {
			case a.equals(refused(api.ErrCorrupt)):
				told++
			case a.err != nil:
				t.Fatalf("%s: %v = %v", s.name, c, a)
			}
		}
	}
	return told
}

// A commit reads branches that the transaction has not met, to tell which pages are free then.
func TestP14_4_ACommitThatMeetsNoPage(t *testing.T) {
	all := shops(t)
	s := all[len(all)-1]
	found := 0
	survey, err := walk.Survey(s.d)
	must(t, err)
	for _, id := range survey.Pages {
		d := clone(t, s.d)
		k := wantFound(t, s.name, d, s.meta.Txid, s.book)
		must(t, k.Begin())
		must(t, k.Put(s.book.pairs()[0].Key, "first"))
		page, err := d.Read(8*id, 8)
		must(t, err)
		must(t, d.Write(8*id, make([]byte, 4096)))
		must(t, d.Sync())
		was := clone(t, d)
		if err := k.Commit(); err == nil {
			continue
		} else if err != api.ErrCorrupt || k.Status() != api.Working || k.Txid() != s.meta.Txid {
			t.Fatalf("page %d: %v, %s", id, err, statusNames[k.Status()])
		}
		found++
		wantSame(t, id, d, was)
		must(t, d.Write(8*id, page))
		must(t, d.Sync())
		if v, is, err := k.Get(s.book.pairs()[0].Key); v != "first" || !is || err != nil {
			t.Errorf("page %d: then %q, %v, %v", id, v, is, err)
		}
		must(t, k.Commit())
		b := contentOf(t, d)
		if len(b) != len(s.book) || b[s.book.pairs()[0].Key] != "first" {
			t.Errorf("page %d: the device has %d pairs", id, len(b))
		}
	}
	if found == 0 {
		t.Error("no commit has met a page that is none")
	}
}

func TestP14_5_EveryCommitCounts(t *testing.T) {
	for _, s := range shops(t) {
		w := twinOver(t, s.d)
		w.do(call{name: "Open"})
		for i := range uint64(5) {
			w.begin()
			w.all([]call{put("n", "1"), del("n")})
			w.rollback()
			since := counts(s.d)
			w.work()
			if w.s.Txid() != s.meta.Txid+i+1 || counts(s.d)[1]-since[1] != 1 {
				t.Errorf("%s: transaction %d, %d sectors", s.name, w.s.Txid(), counts(s.d)[1]-since[1])
			}
			wantHeld(t, s.name, s.d, s.meta.Txid+i+1, s.book)
		}
		w.work(put("n", "1"))
		if w.s.Txid() != s.meta.Txid+6 {
			t.Errorf("%s: transaction %d", s.name, w.s.Txid())
		}
		w.begin()
		w.rollback()
		w.do(call{name: "Close"})
		w.do(call{name: "Open"})
		if w.s.Txid() != s.meta.Txid+6 {
			t.Errorf("%s: opened again, transaction %d", s.name, w.s.Txid())
		}
	}
}

func TestExamples(t *testing.T) {
	d := device.New(256)
	s := kv.New(d)
	say := func(what string, got, want any) {
		t.Helper()
		if fmt.Sprint(got) != fmt.Sprint(want) {
			t.Errorf("%s: %v, want %v", what, got, want)
		}
	}
	say("New; Status; Txid", []any{s.Status(), s.Txid()}, []any{api.Closed, 0})
	say("Open", []any{s.Open(), s.Status()}, []any{api.ErrCorrupt, api.Closed})
	_, _, err := s.Get("")
	say("Closed", []any{s.Begin(), err, s.Commit()}, []any{api.ErrStatus, api.ErrStatus, api.ErrStatus})
	say("Format; Open", []any{s.Format(), s.Open(), s.Txid(), s.Status()}, []any{nil, nil, 0, api.Opened})
	say("Put in Opened", s.Put("a", "1"), api.ErrStatus)
	say("Begin; Put", []any{s.Begin(), s.Put("a", "1")}, []any{nil, nil})
	for _, c := range []struct {
		call
		want answer
	}{
		{call{name: "Get", key: "a"}, answer{value: "1", is: true}},
		{call{name: "Get", key: "b"}, answer{}},
		{del("b"), answer{}},
		{put("", "x"), refused(api.ErrArg)},
		{put("a", strings.Repeat("v", 701)), refused(api.ErrArg)},
		{call{name: "Scan", limit: 10}, answer{pairs: []api.Pair{{Key: "a", Value: "1"}}}},
		{call{name: "Scan", key: "a", value: "b", limit: 0}, answer{}},
		{call{name: "Scan", key: "b", value: "a", limit: 9}, answer{}},
		{call{name: "Scan", limit: 1001}, refused(api.ErrArg)},
	} {
		if a := c.call.of(s); !a.equals(c.want) {
			t.Errorf("%v = %v, want %v", c.call, a, c.want)
		}
	}
	say("Commit; Txid; Status", []any{s.Commit(), s.Txid(), s.Status()}, []any{nil, 1, api.Opened})
	say("Begin", s.Begin(), nil)
	say("Delete", del("a").of(s), answer{is: true})
	say("Rollback", s.Rollback(), nil)
	say("Get", call{name: "Get", key: "a"}.of(s), answer{value: "1", is: true})
	say("Begin; Commit; Txid", []any{s.Begin(), s.Commit(), s.Txid()}, []any{nil, nil, 2})
	say("Close", s.Close(), nil)
	say("Get", call{name: "Get", key: "a"}.of(s), refused(api.ErrStatus))
	say("Open", s.Open(), nil)
	say("Get", call{name: "Get", key: "a"}.of(s), answer{value: "1", is: true})
	say("Txid", s.Txid(), 2)
	d.Arm(0, nil)
	say("Begin; Put; Commit", []any{s.Begin(), s.Put("a", "9"), s.Commit()}, []any{nil, nil, api.ErrDead})
	say("Status; Begin; Rollback", []any{s.Status(), s.Begin(), s.Rollback()}, []any{api.Dead, api.ErrDead, api.ErrDead})
	d.Revive()
	s = kv.New(d)
	say("Revive; New; Open; Txid", []any{s.Open(), s.Txid()}, []any{nil, 2})
}
