package space_test

import (
	"slices"
	"strings"
	"testing"

	"copse/api"
	"copse/device"
	"copse/kv"
	"copse/space"
)

// inEachStatus does something to spaces whose store is in each of the statuses and has the space "a", with one pair.
func inEachStatus(t *testing.T, do func(w *twin)) {
	t.Helper()
	for _, status := range []int{api.Working, api.Opened, api.Closed, api.Broken, api.Dead} {
		w := working(t, 40).made("a")
		w.want(nil, call{what: "Put", name: "a", key: items(num(1)), value: "v"})
		w.commit()
		switch status {
		case api.Working:
			w.begin()
		case api.Closed:
			w.close()
		case api.Broken:
			w.breakIt()
		case api.Dead:
			w.d.Crash(nil)
			_, _, err := w.s.Get("a")
			if err != api.ErrDead {
				t.Fatalf("Get of a dead device: %v", err)
			}
		}
		w.m.status = status
		do(w)
	}
}

// breakIt lets a Commit find no room.
func (w *twin) breakIt() {
	w.t.Helper()
	w.begin()
	for i := range 200 {
		must(w.t, w.s.Put("k"+strings.Repeat(string(rune('a'+i%26)), 1+i), strings.Repeat("v", 700)))
	}
	if err := w.s.Commit(); err != api.ErrFull {
		w.t.Fatalf("Commit = %v", err)
	}
}

// wrongKeys are keys with one fault or several, and some with none.
func wrongKeys() [][]api.Item {
	bad := api.Item{Kind: 9}
	return [][]api.Item{
		nil, items(num(1)), items(num(2)), ones(15), ones(16), ones(17),
		items(bad), slices.Repeat(items(bad), 15), slices.Repeat(items(bad), 16), items(api.Item{}),
		items(flag(2)), items(api.Item{Kind: api.ItemNull, Text: "x"}), items(api.Item{Kind: api.ItemNum, List: ones(1)}),
		items(deep(4)), items(deep(5)), items(listOf(ones(16)...)), items(listOf(ones(17)...)), items(deep(5), bad), items(bad, deep(5)),
		filled(254), filled(255), filled(256), filled(257), items(text(strings.Repeat("k", 65000))), items(text(strings.Repeat("k", 65536))),
		items(text(strings.Repeat("k", 65536)), bad),
	}
}

func TestP16_1_TheOrderOfRefusals(t *testing.T) {
	names := []string{"a", "b", "", strings.Repeat("n", 32), strings.Repeat("n", 33), " ", "a b", "\x7f", "a\x80", "\x00", "é", "a\x1f"}
	values := []string{"", strings.Repeat("v", 700), strings.Repeat("v", 701)}
	inEachStatus(t, func(w *twin) {
		for _, what := range calls {
			for _, name := range names {
				for _, key := range wrongKeys() {
					for i, value := range values {
						w.do(call{what: what, name: name, key: key, value: value, limit: i - 1})
					}
				}
				if what == "Drop" && w.m.status == api.Working && name == "a" {
					w.made("a")
				}
			}
		}
	})
}

// The same, told here one by one.
func TestP16_1_TheOrderOfRefusalsInWords(t *testing.T) {
	bad := items(api.Item{Kind: 9})
	for _, c := range []struct {
		call call
		want error
	}{
		{call{what: "Make", name: ""}, api.ErrArg},
		{call{what: "Make", name: "a"}, api.ErrTwice},
		{call{what: "Drop", name: ""}, api.ErrArg},
		{call{what: "Drop", name: "b"}, api.ErrLost},
		{call{what: "Put", name: "", key: bad, value: strings.Repeat("v", 701)}, api.ErrArg},
		{call{what: "Put", name: "", key: nil}, api.ErrArg},
		{call{what: "Get", name: "", key: nil}, api.ErrArg},
		{call{what: "Delete", name: "", key: nil}, api.ErrArg},
		{call{what: "Scan", name: "", key: ones(16), limit: 1}, api.ErrArg},
		{call{what: "Put", name: "b", key: nil}, api.ErrShort},
		{call{what: "Get", name: "b", key: nil}, api.ErrShort},
		{call{what: "Delete", name: "b", key: nil}, api.ErrShort},
		{call{what: "Put", name: "b", key: ones(16)}, api.ErrMany},
		{call{what: "Get", name: "b", key: ones(16)}, api.ErrMany},
		{call{what: "Delete", name: "b", key: ones(16)}, api.ErrMany},
		{call{what: "Scan", name: "b", key: ones(16), limit: -1}, api.ErrMany},
		{call{what: "Scan", name: "b", key: items(deep(5)), limit: -1}, api.ErrMany},
		{call{what: "Scan", name: "b", key: bad, limit: 1}, api.ErrArg},
		{call{what: "Scan", name: "b", limit: -1}, api.ErrArg},
		{call{what: "Scan", name: "b", limit: 0}, api.ErrLost},
		{call{what: "Put", name: "b", key: slices.Repeat(bad, 16)}, api.ErrMany},
		{call{what: "Put", name: "b", key: bad, value: strings.Repeat("v", 701)}, api.ErrArg},
		{call{what: "Put", name: "b", key: items(text(strings.Repeat("k", 300)), api.Item{})}, api.ErrArg},
		{call{what: "Put", name: "b", key: items(num(1)), value: strings.Repeat("v", 701)}, api.ErrMany},
		{call{what: "Put", name: "b", key: items(num(1)), value: strings.Repeat("v", 700)}, api.ErrLost},
		{call{what: "Get", name: "b", key: items(num(1))}, api.ErrLost},
		{call{what: "Delete", name: "b", key: items(num(1))}, api.ErrLost},
	} {
		inEachStatus(t, func(w *twin) {
			want := c.want
			reads := c.call.what == "Get" || c.call.what == "Scan"
			switch {
			case w.m.status == api.Dead:
				want = api.ErrDead
			case w.m.status != api.Working && !(reads && w.m.status == api.Opened):
				want = api.ErrStatus
			}
			if a := c.call.of(w.p); !a.equals(refused(want)) {
				t.Errorf("%v in %s = %v, want %v", c.call, statusNames[w.m.status], a, want)
			}
		})
	}
}

func TestP16_1_NamesInEachStatus(t *testing.T) {
	inEachStatus(t, func(w *twin) {
		want := map[int]answer{api.Closed: refused(api.ErrStatus), api.Opened: {names: []string{"a"}}, api.Working: {names: []string{"a"}},
			api.Broken: refused(api.ErrStatus), api.Dead: refused(api.ErrDead)}[w.m.status]
		if a := (call{what: "Names"}).of(w.p); !a.equals(want) {
			t.Errorf("Names in %s = %v, want %v", statusNames[w.m.status], a, want)
		}
	})
}

func TestP16_1_WhatANameIs(t *testing.T) {
	for b := range 256 {
		w := working(t, 40)
		want := api.ErrArg
		if b >= 0x21 && b <= 0x7E {
			want = nil
		}
		for _, name := range []string{string([]byte{byte(b)}), "a" + string([]byte{byte(b)}) + "c", strings.Repeat("n", 31) + string([]byte{byte(b)})} {
			if err := w.p.Make(name); err != want {
				t.Errorf("Make(%q) = %v, want %v", name, err, want)
			}
		}
	}
	w := working(t, 40)
	for n := range 70 {
		want := api.ErrArg
		if n >= 1 && n <= 32 {
			want = nil
		}
		if err := w.p.Make(strings.Repeat("n", n)); err != want {
			t.Errorf("Make of %d bytes = %v, want %v", n, err, want)
		}
	}
}

func TestP16_2_SizesOfKeysAndValues(t *testing.T) {
	w := working(t, 100).made("a", strings.Repeat("n", 32))
	for _, c := range []struct {
		name  string
		key   []api.Item
		value int
		want  error
	}{
		{"a", filled(255), 700, nil}, {"a", filled(256), 700, api.ErrMany}, {"a", filled(255), 701, api.ErrMany}, {"a", filled(256), 0, api.ErrMany},
		{"a", items(text(strings.Repeat("\x00", 124))), 0, nil}, {"a", items(text(strings.Repeat("\x00", 125))), 0, api.ErrMany},
		{strings.Repeat("n", 32), filled(255 - 31), 0, nil}, {strings.Repeat("n", 32), filled(256 - 31), 0, api.ErrMany},
		{"a", ones(15), 0, nil}, {"a", ones(16), 0, api.ErrMany}, {"a", ones(1), 0, nil}, {"a", nil, 0, api.ErrShort},
		{"a", append(ones(14), text(strings.Repeat("k", 255-4-9*14-3))), 0, nil}, {"a", append(ones(14), text(strings.Repeat("k", 256-4-9*14-3))), 0, api.ErrMany},
	} {
		w.want(c.want, call{what: "Put", name: c.name, key: c.key, value: strings.Repeat("v", c.value)})
		if c.value <= 700 {
			w.want(c.want, call{what: "Get", name: c.name, key: c.key})
			w.want(c.want, call{what: "Delete", name: c.name, key: c.key})
		}
	}
	w.whole()
}

func TestP16_2_Prefixes(t *testing.T) {
	w := working(t, 100).made("a")
	w.want(nil, call{what: "Put", name: "a", key: ones(15), value: "v"})
	for n := range 18 {
		want := api.ErrMany
		if n <= 15 {
			want = nil
		}
		a := w.want(want, call{what: "Scan", name: "a", key: ones(n), limit: 9})
		if want == nil && len(a.keys) != 1 {
			t.Errorf("a prefix of %d items: %v", n, a)
		}
	}
	w.want(nil, call{what: "Scan", name: "a", key: filled(300), limit: 1})
	w.want(nil, call{what: "Scan", name: "a", key: filled(65536), limit: 1})
	w.want(api.ErrMany, call{what: "Scan", name: "a", key: filled(65537), limit: 1})
	for _, limit := range []int{-1, -2, -1 << 63} {
		w.want(api.ErrArg, call{what: "Scan", name: "a", limit: limit})
	}
}

// The status is the store's: a device that has died since is told where the store is asked.
func TestP16_1_APowerFailureSinceTheLastCall(t *testing.T) {
	for _, c := range []call{
		{what: "Make", name: "b"}, {what: "Drop", name: "a"}, {what: "Names"}, {what: "Put", name: "a", key: ones(1)},
		{what: "Get", name: "a", key: ones(1)}, {what: "Delete", name: "a", key: ones(1)}, {what: "Scan", name: "a", limit: 0}, {what: "Scan", name: "a", limit: 9},
	} {
		w := working(t, 40).made("a")
		w.d.Crash(nil)
		wrong := call{what: c.what, key: ones(16), limit: -1}
		if a := wrong.of(w.p); c.what != "Names" && !a.equals(refused(api.ErrArg)) {
			t.Errorf("%v of a store that does not know yet = %v", wrong, a)
		}
		for range 2 {
			if a := c.of(w.p); !a.equals(refused(api.ErrDead)) || w.s.Status() != api.Dead {
				t.Errorf("%v of a dead device = %v, %s", c, a, statusNames[w.s.Status()])
			}
			w.d.Revive()
		}
		if a := wrong.of(w.p); !a.equals(refused(api.ErrDead)) {
			t.Errorf("%v of a dead store = %v", wrong, a)
		}
	}
}

func TestP16_1_AStoreThatWasNeverOpened(t *testing.T) {
	p := space.New(kv.New(device.New(0)))
	for _, what := range calls {
		if a := (call{what: what, name: "a", key: ones(1), limit: 1}).of(p); !a.equals(refused(api.ErrStatus)) {
			t.Errorf("%s = %v", what, a)
		}
	}
}
