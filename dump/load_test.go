package dump_test

import (
	"fmt"
	"math/rand"
	"testing"

	"copse/api"
	"copse/device"
	"copse/dump"
	"copse/kv"
)

// loadByHand is P21.3 behind the error of Read, call by call.
func loadByHand(d *device.Device, l []api.Pair) error {
	s := kv.New(d)
	if err := s.Format(); err != nil {
		return err
	}
	if err := s.Open(); err != nil {
		return err
	}
	for from := 0; from < len(l); from += 100 {
		if err := s.Begin(); err != nil {
			return err
		}
		for _, p := range l[from:min(from+100, len(l))] {
			if err := s.Put(p.Key, p.Value); err != nil {
				return err
			}
		}
		if err := s.Commit(); err != nil {
			return err
		}
	}
	return s.Close()
}

// wantLoad wants of Load what the calls by hand answer, do and leave on a device on which the same lies, and answers the device.
func wantLoad(t *testing.T, what string, d *device.Device, l []api.Pair, arm func(*device.Device)) (*device.Device, error) {
	t.Helper()
	one, other := clone(t, d), clone(t, d)
	arm(one)
	arm(other)
	want := loadByHand(other, l)
	if got := dump.Load(one, plainLines(l)); got != want {
		t.Errorf("%s: Load: %v, want %v", what, got, want)
	}
	wantSame(t, what, imageOf(one), imageOf(other))
	return one, want
}

func unarmed(*device.Device) {}

func TestP21_3_Transactions(t *testing.T) {
	old := storeOf(t, 60, 5, pairs("old", "1"))
	for _, n := range []int{0, 1, 2, 50, 99, 100, 101, 199, 200, 201, 250, 300, 1000} {
		txid := uint64((n + 99) / 100)
		for what, d := range map[string]*device.Device{"zeros": device.New(8*60 + 7), "a store": old} {
			what = fmt.Sprintf("%d pairs over %s", n, what)
			d, err := wantLoad(t, what, d, alike(n, 40), unarmed)
			if err != nil {
				t.Fatal(what, err)
			}
			wantHeld(t, what, d, txid, alike(n, 40))
			if m := imageOf(d); len(m.pending) != 0 || m.sync != 3+2*int(txid) {
				t.Errorf("%s: %d pending, %d syncs", what, len(m.pending), m.sync)
			}
		}
	}
	d, err := wantLoad(t, "odd pairs", device.New(8*60), oddPairs(), unarmed)
	if err != nil {
		t.Fatal(err)
	}
	wantHeld(t, "odd pairs", d, 3, oddPairs())
}

// The error of Read is told ahead of all else, and the device stays as it was.
func TestP21_3_LinesThatCannotBeRead(t *testing.T) {
	for _, c := range []struct {
		lines []string
		err   error
	}{
		{nil, api.ErrShort}, {[]string{"put a 1"}, api.ErrShort}, {[]string{"x"}, api.ErrText}, {[]string{"put b 1", "put a 1", "end 2"}, api.ErrOrder}, {[]string{`put "" 1`, "end 1"}, api.ErrArg}, {[]string{"end 1"}, api.ErrText}, {append(plainLines(alike(150, 40)), ""), api.ErrText}, {plainLines(alike(150, 40))[:150], api.ErrShort},
	} {
		for _, sectors := range []int{0, 31, 64, 64 * 8} {
			for _, dead := range []bool{false, true} {
				d := device.New(sectors)
				if sectors == 64 {
					d = storeOf(t, 8, 2, pairs("a", "1"))
					must(t, d.Write(40, make([]byte, 512)))
				}
				if dead {
					d.Crash(nil)
				}
				before := imageOf(d)
				if err := dump.Load(d, c.lines); err != c.err {
					t.Errorf("%d sectors, dead %v: Load(%s): %v, want %v", sectors, dead, show(c.lines), err, c.err)
				}
				wantSame(t, show(c.lines), imageOf(d), before)
			}
		}
	}
}

func TestP21_3_Devices(t *testing.T) {
	for _, c := range []struct {
		sectors int
		dead    bool
		err     error
	}{
		{0, false, api.ErrArg}, {8, false, api.ErrArg}, {31, false, api.ErrArg}, {32, false, nil}, {39, false, nil}, {api.MaxSectors, false, nil},
		{0, true, api.ErrDead}, {31, true, api.ErrDead}, {32, true, api.ErrDead},
	} {
		for _, l := range [][]api.Pair{nil, pairs("a", "1"), alike(120, 12)} {
			d := device.New(c.sectors)
			if c.dead {
				d.Crash(nil)
			}
			before := imageOf(d)
			if err := dump.Load(d, plainLines(l)); err != c.err {
				t.Errorf("%d sectors, dead %v: Load of %d pairs: %v, want %v", c.sectors, c.dead, len(l), err, c.err)
			}
			if c.err != nil {
				wantSame(t, "a device that can't be", imageOf(d), before)
				continue
			}
			wantHeld(t, "a device that can be", d, uint64(len(l)+99)/100, l)
		}
	}
}

// Where there is no room in the midst, the transactions ahead are there, and nothing is done behind.
func TestP21_3_Full(t *testing.T) {
	seen := map[int]int{}
	for pages := 4; pages < 90; pages += 2 {
		l := alike(250, 500)
		d, err := wantLoad(t, fmt.Sprintf("%d pages", pages), device.New(8*pages), l, unarmed)
		if err != nil && err != api.ErrFull {
			t.Fatalf("%d pages: %v", pages, err)
		}
		held := 0 // as many hundreds as a plain count of nodes finds room for
		for _, n := range []int{100, 200, 250} {
			if room(t, pages, n, l) != nil {
				break
			}
			held = n
		}
		seen[held]++
		wantHeld(t, fmt.Sprintf("%d pages", pages), d, uint64(held+99)/100, l[:held])
		if full := held < 250; full != (err == api.ErrFull) {
			t.Errorf("%d pages: %d pairs, %v", pages, held, err)
		}
	}
	for _, n := range []int{0, 100, 200, 250} {
		if seen[n] == 0 {
			t.Errorf("no device has room for just %d pairs", n)
		}
	}
}

// room tells what the store itself says of so many pairs, a hundred in each transaction.
func room(t *testing.T, pages, n int, l []api.Pair) error {
	t.Helper()
	d := storeOf(t, pages, 0, nil)
	s := kv.New(d)
	must(t, s.Open())
	for i, p := range l[:n] {
		if i%100 == 0 {
			must(t, s.Begin())
		}
		must(t, s.Put(p.Key, p.Value))
		if i%100 == 99 || i == n-1 {
			if err := s.Commit(); err != nil {
				return err
			}
		}
	}
	return nil
}

func TestP21_3_ThePowerFails(t *testing.T) {
	r := rand.New(rand.NewSource(213))
	for _, c := range []struct {
		what string
		d    *device.Device
		l    []api.Pair
	}{
		{"no pairs", device.New(64), nil}, {"one pair over a store", storeOf(t, 8, 2, pairs("old", "1")), pairs("a", "1")}, {"250 pairs", storeOf(t, 80, 1, pairs("old", "1")), alike(250, 100)},
	} {
		for k := 0; ; k++ {
			fates := fatesOf(r, min(8*k, 24))
			arm := func(d *device.Device) { d.Arm(k, fates[k%len(fates)]) }
			what := fmt.Sprintf("%s, operation %d", c.what, k)
			d, err := wantLoad(t, what, c.d, c.l, arm)
			if err == nil {
				wantHeld(t, what, d, uint64(len(c.l)+99)/100, c.l)
				break
			}
			if err != api.ErrDead || !d.Dead() {
				t.Fatalf("%s: %v", what, err)
			}
		}
	}
}
