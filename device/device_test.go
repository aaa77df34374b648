package device_test

import (
	"bytes"
	"fmt"
	"math"
	"math/rand"
	"runtime"
	"slices"
	"strings"
	"testing"
	"unsafe"

	"copse/api"
	"copse/device"
)

const (
	sectorBytes = 512
	maxSectors  = 8388615
)

// S is a sector of one byte, as the chapter's examples name it.
func S(c byte) string { return strings.Repeat(string([]byte{c}), sectorBytes) }

func drop(i int) api.Fate { return api.Fate{Index: i, Kind: api.FateDrop} }
func keep(i int) api.Fate { return api.Fate{Index: i, Kind: api.FateKeep} }
func tear(i, cut int, junk string) api.Fate {
	return api.Fate{Index: i, Kind: api.FateTear, Cut: cut, Junk: junk}
}

func fates(l ...api.Fate) []api.Fate       { return l }
func sectors(l ...api.Sector) []api.Sector { return l }

// at is a sector and its number.
func at(i int, data string) api.Sector { return api.Sector{Index: i, Data: data} }

func wantError(t *testing.T, what string, got, want error) {
	t.Helper()
	if got != want {
		t.Errorf("%s: %v, want %v", what, got, want)
	}
}

func wantSectors(t *testing.T, what string, got, want []api.Sector) {
	t.Helper()
	if !slices.Equal(got, want) {
		t.Errorf("%s: %s, want %s", what, short(got), short(want))
	}
}

// short tells sectors by their numbers and first bytes.
func short(l []api.Sector) string {
	var out []string
	for _, x := range l {
		out = append(out, fmt.Sprintf("{%d %q}", x.Index, x.Data[:min(len(x.Data), 6)]))
	}
	return "[" + strings.Join(out, " ") + "]"
}

func wantRead(t *testing.T, d *device.Device, sector, n int, want string) {
	t.Helper()
	p, err := d.Read(sector, n)
	if err != nil || string(p) != want {
		t.Errorf("Read(%d, %d): %d bytes, %v, want %d bytes", sector, n, len(p), err, len(want))
	}
}

func wantCounts(t *testing.T, d *device.Device, read, written, synced int) {
	t.Helper()
	if r, w, s := d.Counts(); r != read || w != written || s != synced {
		t.Errorf("Counts: %d, %d, %d, want %d, %d, %d", r, w, s, read, written, synced)
	}
}

// open is a device that must be there.
func open(t *testing.T, size int, l []api.Sector) *device.Device {
	t.Helper()
	d, err := device.Open(size, l)
	if err != nil || d == nil {
		t.Fatalf("Open(%d, %s): %v", size, short(l), err)
	}
	return d
}

func write(t *testing.T, d *device.Device, sector int, text string) {
	t.Helper()
	wantError(t, "Write", d.Write(sector, []byte(text)), nil)
}

// ---- P3.1, P3.2 ----

func TestP3_1_NewIsAliveEmptyAndZero(t *testing.T) {
	d := device.New(3)
	if d.Dead() {
		t.Error("it is dead")
	}
	wantSectors(t, "Durable", d.Durable(), nil)
	wantSectors(t, "Pending", d.Pending(), nil)
	wantCounts(t, d, 0, 0, 0)
	wantRead(t, d, 0, 3, S(0)+S(0)+S(0))
	wantError(t, "an operation, which an arm would end", d.Sync(), nil)
}

func TestP3_1_P3_2_Sizes(t *testing.T) {
	for _, c := range []struct{ asked, want int }{
		{0, 0}, {1, 1}, {4, 4}, {-1, 0}, {-3, 0}, {math.MinInt, 0},
		{maxSectors - 1, maxSectors - 1}, {maxSectors, maxSectors}, {maxSectors + 1, maxSectors},
		{9000000, maxSectors}, {math.MaxInt, maxSectors},
	} {
		if n := device.New(c.asked).Size(); n != c.want {
			t.Errorf("New(%d).Size() = %d, want %d", c.asked, n, c.want)
		}
		if n := open(t, c.asked, nil).Size(); n != c.want {
			t.Errorf("Open(%d, none).Size() = %d, want %d", c.asked, n, c.want)
		}
	}
}

func TestP3_2_SizeStaysOnADeadDevice(t *testing.T) {
	d := device.New(5)
	d.Crash(nil)
	if d.Size() != 5 {
		t.Errorf("the size is %d", d.Size())
	}
}

func TestP3_1_Open(t *testing.T) {
	d := open(t, 4, sectors(at(0, S('a')), at(1, S(0)), at(3, S('b'))))
	wantSectors(t, "Durable", d.Durable(), sectors(at(0, S('a')), at(3, S('b'))))
	wantSectors(t, "Pending", d.Pending(), nil)
	wantRead(t, d, 0, 4, S('a')+S(0)+S(0)+S('b'))
	wantCounts(t, d, 4, 0, 0)
	d.Crash(fates(keep(0)))
	wantSectors(t, "they are durable at once", d.Durable(), sectors(at(0, S('a')), at(3, S('b'))))

	d = open(t, maxSectors+7, sectors(at(maxSectors-1, S('z'))))
	wantRead(t, d, maxSectors-1, 1, S('z'))
}

func TestP3_1_OpenRefuses(t *testing.T) {
	for name, c := range map[string]struct {
		size int
		l    []api.Sector
	}{
		"an Index at the end":         {4, sectors(at(4, S('a')))},
		"an Index far above":          {4, sectors(at(math.MaxInt, S('a')))},
		"an Index below 0":            {4, sectors(at(-1, S('a')))},
		"an Index far below":          {4, sectors(at(math.MinInt, S('a')))},
		"a later Index at the end":    {4, sectors(at(0, S('a')), at(4, S('a')))},
		"a last Index that wraps":     {4, sectors(at(0, S('a')), at(math.MaxInt, S('a')), at(math.MinInt, S('b')))},
		"the same Index twice":        {4, sectors(at(1, S('a')), at(1, S('a')))},
		"the Index 0 twice":           {4, sectors(at(0, S('a')), at(0, S('a')))},
		"the same behind a zero one":  {4, sectors(at(1, S(0)), at(1, S('a')))},
		"a falling Index":             {4, sectors(at(2, S('a')), at(1, S('a')))},
		"511 bytes":                   {4, sectors(at(0, S('a')[1:]))},
		"513 bytes":                   {4, sectors(at(0, S('a')+"a"))},
		"1024 bytes":                  {4, sectors(at(0, S('a')+S('a')))},
		"no bytes":                    {4, sectors(at(0, ""))},
		"a later one of 511 bytes":    {4, sectors(at(0, S('a')), at(1, S('a')[1:]))},
		"a sector of no sectors":      {0, sectors(at(0, S('a')))},
		"a sector of size -1":         {-1, sectors(at(0, S('a')))},
		"a sector above MaxSectors":   {9000000, sectors(at(maxSectors, S('a')))},
		"zero Data above MaxSectors":  {9000000, sectors(at(maxSectors, S(0)))},
		"a right one behind a wrong":  {4, sectors(at(-1, S('a')), at(1, S('a')))},
		"zero Data, the same Index":   {4, sectors(at(1, S(0)), at(1, S(0)))},
		"zero Data that is too short": {4, sectors(at(1, S(0)[1:]))},
	} {
		if d, err := device.Open(c.size, c.l); d != nil || err != api.ErrArg {
			t.Errorf("%s: %v, %v, want nil and ErrArg", name, d != nil, err)
		}
	}
}

// ---- P3.3 ----

func TestP3_3_ReadsWhatStands(t *testing.T) {
	d := open(t, 5, sectors(at(0, S('a')), at(1, S('b')), at(4, S('c'))))
	write(t, d, 1, S('x')+S('y'))
	write(t, d, 1, S('z'))
	write(t, d, 4, S(0))
	wantRead(t, d, 0, 5, S('a')+S('z')+S('y')+S(0)+S(0))
	wantRead(t, d, 1, 2, S('z')+S('y'))
	wantRead(t, d, 4, 1, S(0))
	wantRead(t, d, 3, 0, "")
	wantRead(t, d, 5, 0, "")
}

func TestP3_3_Refusals(t *testing.T) {
	small, big := device.New(4), device.New(2000)
	for _, c := range []struct {
		d         *device.Device
		sector, n int
		want      error
	}{
		{small, 0, -1, api.ErrArg}, {small, -1, 1, api.ErrArg}, {small, -1, 0, api.ErrArg}, {small, 2, -1, api.ErrArg},
		{small, 4, 1, api.ErrArg}, {small, 2, 3, api.ErrArg}, {small, 0, 5, api.ErrArg}, {small, 5, 0, api.ErrArg},
		{small, 5, -1, api.ErrArg}, {small, -1, 2, api.ErrArg},
		{small, math.MaxInt, 1, api.ErrArg}, {small, 1, math.MaxInt, api.ErrArg}, {small, math.MaxInt, math.MaxInt, api.ErrArg},
		{small, math.MinInt, 1, api.ErrArg}, {small, 1, math.MinInt, api.ErrArg}, {small, math.MinInt, math.MinInt, api.ErrArg},
		{small, 0, math.MinInt, api.ErrArg}, {small, math.MinInt, math.MaxInt, api.ErrArg}, {small, 0, 1025, api.ErrArg},
		{big, 0, 1025, api.ErrMany}, {big, 975, 1025, api.ErrMany}, {big, 0, 2000, api.ErrMany},
		{big, 976, 1025, api.ErrArg}, {big, 0, 2001, api.ErrArg}, {big, -1, 1025, api.ErrArg},
	} {
		if p, err := c.d.Read(c.sector, c.n); len(p) != 0 || err != c.want {
			t.Errorf("Read(%d, %d) of %d: %d bytes, %v, want %v", c.sector, c.n, c.d.Size(), len(p), err, c.want)
		}
	}
	wantCounts(t, small, 0, 0, 0)
	wantCounts(t, big, 0, 0, 0)
	wantRead(t, big, 0, 1024, strings.Repeat(S(0), 1024))
	wantRead(t, big, 976, 1024, strings.Repeat(S(0), 1024))
}

func TestP3_3_P3_4_P3_5_DeadComesFirst(t *testing.T) {
	d := device.New(2000)
	d.Crash(nil)
	for _, c := range [][2]int{{0, 1}, {0, 0}, {-1, 1}, {0, -1}, {2000, 1}, {0, 1025}, {math.MaxInt, math.MaxInt}} {
		if p, err := d.Read(c[0], c[1]); len(p) != 0 || err != api.ErrDead {
			t.Errorf("Read(%d, %d): %d bytes, %v", c[0], c[1], len(p), err)
		}
	}
	for _, p := range []string{S('a'), "", "abc"} {
		for _, sector := range []int{0, -1, 2000, math.MaxInt} {
			wantError(t, "Write", d.Write(sector, []byte(p)), api.ErrDead)
		}
	}
	wantError(t, "Sync", d.Sync(), api.ErrDead)
	wantCounts(t, d, 0, 0, 0)
}

// ---- P3.4 ----

func TestP3_4_WritesArePendingInOrder(t *testing.T) {
	d := device.New(4)
	write(t, d, 1, S('a')+S('b')+S('c'))
	write(t, d, 0, S('d'))
	write(t, d, 2, S('b'))
	write(t, d, 3, S(0))
	wantSectors(t, "Pending", d.Pending(), sectors(at(1, S('a')), at(2, S('b')), at(3, S('c')), at(0, S('d')), at(2, S('b')), at(3, S(0))))
	wantSectors(t, "Durable", d.Durable(), nil)
	mixed := strings.Repeat("0123456789abcdef", 64)
	write(t, d, 2, mixed)
	wantRead(t, d, 2, 2, mixed)
}

func TestP3_4_Refusals(t *testing.T) {
	d := open(t, 4, sectors(at(0, S('o'))))
	write(t, d, 1, S('p'))
	d.Arm(0, nil)
	for _, c := range []struct {
		sector int
		p      string
	}{
		{0, ""}, {4, ""}, {-1, ""}, {0, "a"}, {0, S('a')[1:]}, {0, S('a') + "a"}, {0, S('a') + S('a')[1:]},
		{-1, S('a')}, {4, S('a')}, {3, S('a') + S('b')}, {0, S('a') + S('b') + S('c') + S('d') + S('e')}, {-1, S('a') + S('b')},
		{math.MaxInt, S('a')}, {math.MinInt, S('a')}, {math.MaxInt, S('a') + S('b')}, {math.MaxInt - 1, S('a') + S('b')},
	} {
		wantError(t, "Write", d.Write(c.sector, []byte(c.p)), api.ErrArg)
	}
	wantError(t, "Write of nil", d.Write(0, nil), api.ErrArg)
	wantSectors(t, "Pending", d.Pending(), sectors(at(1, S('p'))))
	wantSectors(t, "Durable", d.Durable(), sectors(at(0, S('o'))))
	wantCounts(t, d, 0, 1, 0)
	if d.Dead() {
		t.Error("a refused write is no operation, but met the arm")
	}
	wantError(t, "no sector of none", device.New(0).Write(0, []byte(S('a'))), api.ErrArg)
}

func TestP3_4_ToTheEnd(t *testing.T) {
	d := device.New(4)
	write(t, d, 3, S('z'))
	write(t, d, 0, S('a')+S('b')+S('c')+S('d'))
	wantRead(t, d, 0, 4, S('a')+S('b')+S('c')+S('d'))
	d = device.New(maxSectors)
	write(t, d, maxSectors-1, S('z'))
	wantRead(t, d, maxSectors-2, 2, S(0)+S('z'))
	long := bytes.Repeat([]byte(S('l')), 3000)
	wantError(t, "a write of more than a read may have", d.Write(maxSectors-3000, long), nil)
	wantRead(t, d, maxSectors-3000, 1, S('l'))
	wantRead(t, d, maxSectors-1, 1, S('l'))
}

// ---- P3.5 ----

func TestP3_5_Sync(t *testing.T) {
	d := open(t, 4, sectors(at(0, S('o')), at(3, S('k'))))
	write(t, d, 0, S('a')+S('b'))
	write(t, d, 1, S('c'))
	wantError(t, "Sync", d.Sync(), nil)
	wantSectors(t, "Pending", d.Pending(), nil)
	wantSectors(t, "the last write to a sector stays", d.Durable(), sectors(at(0, S('a')), at(1, S('c')), at(3, S('k'))))
	wantRead(t, d, 0, 4, S('a')+S('c')+S(0)+S('k'))
	write(t, d, 2, S('n'))
	wantSectors(t, "numbers begin anew", d.Pending(), sectors(at(2, S('n'))))
	d.Crash(fates(keep(0)))
	wantSectors(t, "Durable", d.Durable(), sectors(at(0, S('a')), at(1, S('c')), at(2, S('n')), at(3, S('k'))))
}

func TestP3_5_SyncOfNothing(t *testing.T) {
	d := open(t, 2, sectors(at(1, S('o'))))
	wantError(t, "Sync", d.Sync(), nil)
	wantError(t, "Sync", d.Sync(), nil)
	wantSectors(t, "Durable", d.Durable(), sectors(at(1, S('o'))))
	wantCounts(t, d, 0, 0, 2)
}

// ---- P3.6 and the word 'to settle' ----

// settled is what is durable in a device of 4 sectors, of which 3 holds o, behind the writes of a, b to 1, 2 and of c, d to 1, 3, and a crash.
func settled(t *testing.T, l ...api.Fate) []api.Sector {
	t.Helper()
	d := open(t, 4, sectors(at(3, S('o'))))
	write(t, d, 1, S('a')+S('b'))
	write(t, d, 1, S('c'))
	write(t, d, 3, S('d'))
	d.Crash(l)
	if !d.Dead() || len(d.Pending()) != 0 {
		t.Errorf("behind a crash: dead %v, %d pending", d.Dead(), len(d.Pending()))
	}
	return d.Durable()
}

func TestP3_6_Settle(t *testing.T) {
	o := at(3, S('o'))
	for name, c := range map[string]struct {
		l    []api.Fate
		want []api.Sector
	}{
		"none":                          {nil, sectors(o)},
		"one kept":                      {fates(keep(1)), sectors(at(2, S('b')), o)},
		"two kept to one sector":        {fates(keep(0), keep(2)), sectors(at(1, S('c')), o)},
		"in the other order":            {fates(keep(2), keep(0)), sectors(at(1, S('a')), o)},
		"all, falling":                  {fates(keep(3), keep(2), keep(1), keep(0)), sectors(at(1, S('a')), at(2, S('b')), at(3, S('d')))},
		"dropped":                       {fates(drop(3), drop(0)), sectors(o)},
		"named twice":                   {fates(keep(2), keep(0), keep(2)), sectors(at(1, S('a')), o)},
		"dropped, then kept":            {fates(drop(0), keep(0)), sectors(o)},
		"kept, then torn":               {fates(keep(0), tear(0, 1, "x")), sectors(at(1, S('a')), o)},
		"torn, then kept":               {fates(tear(0, 0, S('x')), keep(0)), sectors(at(1, S('x')), o)},
		"an unknown kind, then kept":    {fates(api.Fate{Index: 0, Kind: 7}, keep(0)), sectors(o)},
		"no number":                     {fates(keep(4), keep(-1), keep(math.MaxInt), keep(math.MinInt)), sectors(o)},
		"no number ahead of a right":    {fates(keep(4), keep(-1), keep(1)), sectors(at(2, S('b')), o)},
		"a right behind a double":       {fates(keep(0), keep(0), keep(1)), sectors(at(1, S('a')), at(2, S('b')), o)},
		"torn over what is durable":     {fates(tear(3, 2, "")), sectors(at(3, "dd"+S(0)[2:]))},
		"torn to zero over the durable": {fates(tear(3, 0, "")), nil},
		"torn, the next kept over it":   {fates(tear(0, 3, "x"), keep(2)), sectors(at(1, S('c')), o)},
		"kept, the next torn over it":   {fates(keep(0), tear(2, 3, "x")), sectors(at(1, "cccx"+S(0)[4:]), o)},
	} {
		wantSectors(t, name, settled(t, c.l...), c.want)
	}
}

func TestP3_6_UnknownKindsDrop(t *testing.T) {
	for _, kind := range []int{0, 4, -1, -2, -3, 5, 256 + 2, 1<<32 + 2, math.MaxInt, math.MinInt} {
		wantSectors(t, "a kind that is none", settled(t, api.Fate{Index: 0, Kind: kind, Cut: 9, Junk: "x"}), sectors(at(3, S('o'))))
	}
}

func TestP3_6_FieldsOfOtherKindsDoNotCount(t *testing.T) {
	kept := api.Fate{Index: 1, Kind: api.FateKeep, Cut: 3, Junk: "xy"}
	dropped := api.Fate{Index: 0, Kind: api.FateDrop, Cut: 3, Junk: "xy"}
	wantSectors(t, "Durable", settled(t, dropped, kept), sectors(at(2, S('b')), at(3, S('o'))))
}

func TestP3_6_Tears(t *testing.T) {
	rising := ""
	for i := range sectorBytes {
		rising += string([]byte{byte(i%250 + 1)})
	}
	for _, c := range []struct {
		cut  int
		junk string
		want string
	}{
		{0, "", S(0)}, {3, "", rising[:3] + S(0)[3:]}, {3, "xy", rising[:3] + "xy" + S(0)[5:]},
		{511, "", rising[:511] + "\x00"}, {511, "x", rising[:511] + "x"}, {511, "xy", rising[:511] + "x"},
		{512, "", rising}, {512, "x", rising}, {513, "x", rising}, {600, S('j'), rising}, {math.MaxInt, "x", rising},
		{-1, "q", "q" + S(0)[1:]}, {-5, S('j'), S('j')}, {math.MinInt, "q", "q" + S(0)[1:]}, {-1, "", S(0)},
		{0, S('j')[1:], S('j')[1:] + "\x00"}, {0, S('j'), S('j')}, {0, S('j') + "k", S('j')},
		{5, S('j')[5:], rising[:5] + S('j')[5:]}, {5, S('j')[4:], rising[:5] + S('j')[5:]}, {5, S('j')[6:], rising[:5] + S('j')[6:] + "\x00"},
		{256, strings.Repeat("long", 1<<16), rising[:256] + strings.Repeat("long", 64)}, {0, S(0), S(0)}, {1, S(0), rising[:1] + S(0)[1:]},
	} {
		want := sectors(at(1, c.want))
		if c.want == S(0) {
			want = nil
		}
		for _, was := range []string{S(0), S('w')} {
			d := open(t, 2, sectors(at(1, was)))
			write(t, d, 1, rising)
			d.Crash(fates(tear(0, c.cut, c.junk)))
			wantSectors(t, "torn by Crash", d.Durable(), want)

			d = open(t, 2, sectors(at(1, was)))
			d.Arm(0, fates(tear(0, c.cut, c.junk)))
			wantError(t, "Write", d.Write(1, []byte(rising)), api.ErrDead)
			wantSectors(t, "torn by an arm", d.Durable(), want)
		}
	}
}

func TestP3_6_CrashOfADeadDevice(t *testing.T) {
	d := device.New(2)
	write(t, d, 0, S('a'))
	d.Crash(nil)
	d.Crash(fates(keep(0)))
	wantSectors(t, "Durable", d.Durable(), nil)
	d.Revive()
	wantRead(t, d, 0, 1, S(0))
	write(t, d, 1, S('b'))
	d.Crash(fates(keep(0)))
	wantSectors(t, "numbers begin anew", d.Durable(), sectors(at(1, S('b'))))
}

func TestP3_6_CrashIsNoOperation(t *testing.T) {
	d := device.New(2)
	d.Arm(1, nil)
	write(t, d, 0, S('a')) // the arm's number is 0 now
	d.Crash(fates(keep(0)))
	wantCounts(t, d, 0, 1, 0)
	d.Revive()
	wantError(t, "the arm has stayed", d.Sync(), api.ErrDead)
	d.Revive()
	wantError(t, "and is gone", d.Sync(), nil)
	wantCounts(t, d, 0, 1, 2)
}

// ---- P3.7 and the word 'arm' ----

func TestP3_7_ArmAtOnceMeetsAWrite(t *testing.T) {
	d := device.New(4)
	write(t, d, 0, S('a'))
	d.Arm(0, fates(keep(2), keep(0)))
	wantError(t, "Write", d.Write(2, []byte(S('b')+S('c'))), api.ErrDead)
	if !d.Dead() || len(d.Pending()) != 0 {
		t.Error("it is not dead, or something is pending")
	}
	wantSectors(t, "the write's own sectors count", d.Durable(), sectors(at(0, S('a')), at(3, S('c'))))
	wantCounts(t, d, 0, 3, 0)
	d.Revive()
	write(t, d, 1, S('d'))
	wantError(t, "the arm is gone", d.Sync(), nil)
}

func TestP3_7_ArmMeetsASync(t *testing.T) {
	d := device.New(4)
	write(t, d, 0, S('a'))
	d.Arm(0, fates(tear(0, 0, "x"), drop(0)))
	wantError(t, "Sync", d.Sync(), api.ErrDead)
	wantSectors(t, "it had made all durable", d.Durable(), sectors(at(0, S('a'))))
	wantCounts(t, d, 0, 1, 1)
	if !d.Dead() {
		t.Error("it is not dead")
	}
}

func TestP3_7_ArmWaits(t *testing.T) {
	d := device.New(4)
	d.Arm(3, fates(keep(1)))
	write(t, d, 0, S('a')+S('b')+S('c'))
	wantError(t, "Sync", d.Sync(), nil)
	write(t, d, 3, S('d'))
	for range 3 { // none of these is an operation
		wantError(t, "Write", d.Write(4, []byte(S('x'))), api.ErrArg)
		wantRead(t, d, 3, 1, S('d'))
		d.Size()
		d.Dead()
		d.Durable()
		d.Pending()
		d.Counts()
		d.Revive()
		d.Arm(5, nil)
	}
	wantError(t, "the fourth", d.Write(0, []byte(S('e'))), api.ErrDead)
	wantSectors(t, "Durable", d.Durable(), sectors(at(0, S('e')), at(1, S('b')), at(2, S('c'))))
	wantError(t, "Write", d.Write(0, []byte(S('f'))), api.ErrDead)
}

func TestP3_7_ArmsBehindOneAnother(t *testing.T) {
	d := device.New(4)
	d.Arm(1, fates(keep(0)))
	d.Arm(0, fates(keep(0)))
	d.Arm(2, nil)
	write(t, d, 0, S('a'))
	wantError(t, "the first arm", d.Sync(), api.ErrDead)
	for range 3 { // a dead device's refusals are no operations
		wantError(t, "Sync", d.Sync(), api.ErrDead)
		wantError(t, "Write", d.Write(0, []byte(S('x'))), api.ErrDead)
	}
	d.Revive()
	wantError(t, "the second arm", d.Write(1, []byte(S('b'))), api.ErrDead)
	d.Revive()
	wantError(t, "the third waits", d.Sync(), nil)
	wantError(t, "the third waits", d.Sync(), nil)
	wantError(t, "the third arm", d.Write(2, []byte(S('c'))), api.ErrDead)
	d.Revive()
	wantError(t, "none is left", d.Sync(), nil)
	wantSectors(t, "Durable", d.Durable(), sectors(at(0, S('a')), at(1, S('b'))))
}

func TestP3_7_NumbersBelowZero(t *testing.T) {
	for _, after := range []int{-1, -7, math.MinInt} {
		d := device.New(1)
		d.Arm(after, fates(keep(0)))
		wantError(t, "Write", d.Write(0, []byte(S('a'))), api.ErrDead)
		wantSectors(t, "Durable", d.Durable(), sectors(at(0, S('a'))))
	}
	d := device.New(1)
	d.Arm(math.MaxInt, nil)
	for range 100 {
		wantError(t, "Sync", d.Sync(), nil)
	}
}

func TestP3_7_ArmOnADeadDevice(t *testing.T) {
	d := device.New(2)
	d.Crash(nil)
	d.Arm(0, fates(keep(0)))
	wantError(t, "Sync", d.Sync(), api.ErrDead)
	wantCounts(t, d, 0, 0, 0)
	d.Revive()
	if d.Dead() {
		t.Error("Arm has killed it")
	}
	wantError(t, "Write", d.Write(1, []byte(S('a'))), api.ErrDead)
	wantSectors(t, "Durable", d.Durable(), sectors(at(1, S('a'))))
}

func TestP3_7_ManyArms(t *testing.T) {
	d := device.New(1)
	const many = 100000
	for range many {
		d.Arm(0, fates(drop(0)))
	}
	for range many {
		d.Revive()
		wantError(t, "Write", d.Write(0, []byte(S('a'))), api.ErrDead)
	}
	d.Revive()
	write(t, d, 0, S('a'))
}

// ---- P3.8 ----

func TestP3_8_ReviveAndDead(t *testing.T) {
	d := device.New(2)
	write(t, d, 0, S('a'))
	d.Arm(1, nil)
	d.Revive() // of a device that is alive
	if d.Dead() {
		t.Error("it is dead")
	}
	wantSectors(t, "pending writes stay", d.Pending(), sectors(at(0, S('a'))))
	wantError(t, "Sync", d.Sync(), nil)
	wantError(t, "arms stay", d.Sync(), api.ErrDead)
	if !d.Dead() {
		t.Error("it is alive")
	}
	d.Revive()
	if d.Dead() {
		t.Error("it is dead behind Revive")
	}
	wantSectors(t, "Pending", d.Pending(), nil)
	wantRead(t, d, 0, 2, S('a')+S(0))
	wantCounts(t, d, 2, 1, 2)
}

// ---- P3.9 ----

func TestP3_9_DurableIsRisingAndNotZero(t *testing.T) {
	d := device.New(3000)
	var want []api.Sector
	for i := range 2000 {
		sector := (i * 1223) % 2000
		data := S(byte(sector))
		write(t, d, sector, data)
		if data != S(0) {
			want = append(want, at(sector, data))
		}
	}
	wantSectors(t, "nothing is durable yet", d.Durable(), nil)
	wantError(t, "Sync", d.Sync(), nil)
	slices.SortFunc(want, func(a, b api.Sector) int { return a.Index - b.Index })
	wantSectors(t, "Durable", d.Durable(), want)
	wantSectors(t, "Durable, again", d.Durable(), want)

	write(t, d, 1, S(0))
	wantSectors(t, "a zero that is pending", d.Durable(), want)
	wantError(t, "Sync", d.Sync(), nil)
	wantSectors(t, "a sector that is zero again", d.Durable(), want[1:])
	wantRead(t, d, 1, 2, S(0)+S(2))
	d.Crash(nil)
	wantSectors(t, "of a dead device", d.Durable(), want[1:])
}

func TestP3_9_ZerosBecomeDurableByEachWay(t *testing.T) {
	for name, end := range map[string]func(d *device.Device){
		"Sync":    func(d *device.Device) { d.Sync() },
		"kept":    func(d *device.Device) { d.Crash(fates(keep(0))) },
		"torn":    func(d *device.Device) { d.Crash(fates(tear(0, 100, ""))) },
		"an arm":  func(d *device.Device) { d.Arm(0, nil); d.Sync() },
		"its own": func(d *device.Device) { d.Arm(0, fates(keep(1))); d.Write(0, []byte(S(0))) },
	} {
		d := open(t, 1, sectors(at(0, S('o'))))
		write(t, d, 0, S(0))
		end(d)
		wantSectors(t, name, d.Durable(), nil)
		d.Revive()
		wantRead(t, d, 0, 1, S(0))
	}
}

func TestP3_9_OneByteIsNotZero(t *testing.T) {
	for _, i := range []int{0, 1, 255, 256, 510, 511} {
		data := S(0)[:i] + "\x01" + S(0)[i+1:]
		d := device.New(1)
		write(t, d, 0, data)
		d.Sync()
		wantSectors(t, "Durable", d.Durable(), sectors(at(0, data)))
	}
}

func TestP3_9_AskingChangesNothing(t *testing.T) {
	d := device.New(3)
	write(t, d, 1, S('a')+S(0))
	d.Arm(0, fates(keep(0)))
	for range 3 {
		wantSectors(t, "Pending", d.Pending(), sectors(at(1, S('a')), at(2, S(0))))
		wantSectors(t, "Durable", d.Durable(), nil)
	}
	wantCounts(t, d, 0, 2, 0)
	wantError(t, "the arm was not met", d.Write(0, []byte(S('b'))), api.ErrDead)
	wantSectors(t, "Pending of a dead device", d.Pending(), nil)
	wantSectors(t, "Durable of a dead device", d.Durable(), sectors(at(1, S('a'))))
}

// ---- P3.10 ----

func TestP3_10_Counts(t *testing.T) {
	d := open(t, 2000, sectors(at(0, S('o'))))
	wantCounts(t, d, 0, 0, 0)
	d.Read(0, 7)
	d.Read(3, 0)
	d.Read(0, 1024)
	d.Read(0, 1025)
	d.Read(2000, 1)
	d.Read(0, -1)
	wantCounts(t, d, 1031, 0, 0)
	d.Write(0, []byte(S('a')+S('b')+S('c')))
	d.Write(0, []byte(S('a')))
	d.Write(0, nil)
	d.Write(2000, []byte(S('a')))
	wantCounts(t, d, 1031, 4, 0)
	d.Sync()
	d.Sync()
	wantCounts(t, d, 1031, 4, 2)
	d.Arm(0, nil)
	d.Write(0, []byte(S('a')+S('b')))
	wantCounts(t, d, 1031, 6, 2)
	d.Write(0, []byte(S('a')))
	d.Sync()
	d.Read(0, 1)
	d.Crash(nil)
	wantCounts(t, d, 1031, 6, 2)
	d.Revive()
	d.Arm(0, nil)
	d.Sync()
	wantCounts(t, d, 1031, 6, 3)
}

// ---- what the chapter says, call by call, by the plainest means ----

// plain is a device of few sectors: everything lies in lists.
type plain struct {
	durable               []string
	pending               []api.Sector
	arms                  []plainArm
	dead                  bool
	read, written, synced int
}

type plainArm struct {
	after int
	l     []api.Fate
}

func (m *plain) stands(sector int) string {
	for i := len(m.pending) - 1; i >= 0; i-- {
		if m.pending[i].Index == sector {
			return m.pending[i].Data
		}
	}
	return m.durable[sector]
}

func (m *plain) Read(sector, n int) (string, error) {
	switch {
	case m.dead:
		return "", api.ErrDead
	case n < 0 || sector < 0 || sector+n > len(m.durable):
		return "", api.ErrArg
	}
	out := ""
	for i := range n {
		out += m.stands(sector + i)
	}
	m.read += n
	return out, nil
}

func (m *plain) Write(sector int, p string) error {
	switch {
	case m.dead:
		return api.ErrDead
	case p == "" || len(p)%sectorBytes != 0 || sector < 0 || sector+len(p)/sectorBytes > len(m.durable):
		return api.ErrArg
	}
	for ; p != ""; p = p[sectorBytes:] {
		m.pending = append(m.pending, at(sector, p[:sectorBytes]))
		sector++
		m.written++
	}
	return m.done()
}

func (m *plain) Sync() error {
	if m.dead {
		return api.ErrDead
	}
	now := make([]string, len(m.durable))
	for i := range now {
		now[i] = m.stands(i)
	}
	m.durable, m.pending = now, nil
	m.synced++
	return m.done()
}

func (m *plain) done() error {
	if len(m.arms) == 0 {
		return nil
	}
	if m.arms[0].after > 0 {
		m.arms[0].after--
		return nil
	}
	l := m.arms[0].l
	m.arms = m.arms[1:]
	m.Crash(l)
	return api.ErrDead
}

func (m *plain) Crash(l []api.Fate) {
	if m.dead {
		return
	}
	for i, f := range l {
		had := slices.ContainsFunc(l[:i], func(g api.Fate) bool { return g.Index == f.Index })
		if had || f.Index < 0 || f.Index >= len(m.pending) {
			continue
		}
		w := m.pending[f.Index]
		switch f.Kind {
		case api.FateKeep:
			m.durable[w.Index] = w.Data
		case api.FateTear:
			m.durable[w.Index] = tornByChapter(w.Data, f)
		}
	}
	m.pending, m.dead = nil, true
}

func tornByChapter(data string, f api.Fate) string {
	cut := f.Cut
	if cut < 0 {
		cut = 0
	}
	if cut > sectorBytes {
		cut = sectorBytes
	}
	return (data[:cut] + f.Junk + S(0))[:sectorBytes]
}

func (m *plain) Arm(after int, l []api.Fate) {
	if after < 0 {
		after = 0
	}
	m.arms = append(m.arms, plainArm{after, l})
}

func (m *plain) Durable() []api.Sector {
	var l []api.Sector
	for i, data := range m.durable {
		if data != S(0) {
			l = append(l, at(i, data))
		}
	}
	return l
}

func newPlain(size int) *plain {
	return &plain{durable: slices.Repeat([]string{S(0)}, size)}
}

// randomData is n sectors, some of them zero.
func randomData(r *rand.Rand, n int) string {
	out := ""
	for range n {
		switch r.Intn(4) {
		case 0:
			out += S(0)
		case 1:
			out += S(byte(r.Intn(256)))
		default:
			p := make([]byte, sectorBytes)
			r.Read(p)
			out += string(p)
		}
	}
	return out
}

// randomFates is some fates, most of them of writes that are pending.
func randomFates(r *rand.Rand, pending int) []api.Fate {
	var l []api.Fate
	for range r.Intn(2*pending + 3) {
		f := api.Fate{Index: r.Intn(pending+3) - 1, Kind: []int{1, 2, 2, 3, 3, r.Intn(9) - 2}[r.Intn(6)], Cut: r.Intn(540) - 10}
		if r.Intn(3) > 0 {
			f.Junk = randomData(r, 1)[:r.Intn(sectorBytes+1)]
		}
		if r.Intn(8) == 0 {
			f.Junk = randomData(r, 2)
		}
		l = append(l, f)
	}
	return l
}

// step does one random call to both, and tells where they differ.
func step(t *testing.T, r *rand.Rand, d *device.Device, m *plain) {
	t.Helper()
	size := len(m.durable)
	switch r.Intn(12) {
	case 0, 1:
		sector, n := r.Intn(size+4)-2, r.Intn(size+4)-2
		p, err := d.Read(sector, n)
		q, want := m.Read(sector, n)
		if string(p) != q || err != want {
			t.Fatalf("Read(%d, %d): %d bytes, %v, want %d, %v", sector, n, len(p), err, len(q), want)
		}
	case 2, 3, 4, 5, 6:
		sector, p := r.Intn(size+2)-1, randomData(r, r.Intn(4))
		if r.Intn(9) == 0 {
			p += "x"
		}
		if got, want := d.Write(sector, []byte(p)), m.Write(sector, p); got != want {
			t.Fatalf("Write(%d, %d bytes): %v, want %v", sector, len(p), got, want)
		}
	case 7, 8:
		if got, want := d.Sync(), m.Sync(); got != want {
			t.Fatalf("Sync: %v, want %v", got, want)
		}
	case 9:
		l := randomFates(r, len(m.pending))
		d.Crash(l)
		m.Crash(l)
	case 10:
		after, l := r.Intn(6)-2, randomFates(r, len(m.pending)+2)
		d.Arm(after, l)
		m.Arm(after, l)
	case 11:
		d.Revive()
		m.dead = false
	}
}

func sameState(t *testing.T, d *device.Device, m *plain) {
	t.Helper()
	if d.Dead() != m.dead || d.Size() != len(m.durable) || !slices.Equal(d.Pending(), m.pending) || !slices.Equal(d.Durable(), m.Durable()) {
		t.Fatalf("dead %v, pending %s, durable %s; want %v, %s, %s", d.Dead(), short(d.Pending()), short(d.Durable()), m.dead, short(m.pending), short(m.Durable()))
	}
	if r, w, s := d.Counts(); r != m.read || w != m.written || s != m.synced {
		t.Fatalf("Counts: %d, %d, %d, want %d, %d, %d", r, w, s, m.read, m.written, m.synced)
	}
}

func TestP3_1_to_P3_10_RandomScripts(t *testing.T) {
	for seed := range int64(400) {
		r := rand.New(rand.NewSource(seed))
		size := r.Intn(8)
		d, m := device.New(size), newPlain(size)
		for range 120 {
			step(t, r, d, m)
			sameState(t, d, m)
			if m.dead && r.Intn(2) == 0 {
				d.Revive()
				m.dead = false
			}
		}
	}
}

// ---- P3.11 ----

func TestP3_11_NothingAheadOfASyncIsLost(t *testing.T) {
	for seed := range int64(200) {
		r := rand.New(rand.NewSource(seed))
		d := device.New(6)
		for range 20 {
			sector := r.Intn(6)
			d.Write(sector, []byte(randomData(r, 1+r.Intn(6-sector))))
		}
		was, _ := d.Read(0, 6)
		wantError(t, "Sync", d.Sync(), nil)
		touched := map[int]bool{}
		for range r.Intn(4) {
			sector := r.Intn(6)
			d.Write(sector, []byte(randomData(r, 1)))
			touched[sector] = true
		}
		d.Crash(randomFates(r, len(d.Pending())))
		d.Revive()
		now, _ := d.Read(0, 6)
		for i := range 6 {
			if !touched[i] && !bytes.Equal(was[i*sectorBytes:(i+1)*sectorBytes], now[i*sectorBytes:(i+1)*sectorBytes]) {
				t.Fatalf("seed %d: the sector %d, which was synced, has changed", seed, i)
			}
		}
	}
}

// mayHold: is it what was durable, or one of the pending writes to the sector, whole or torn by one of the fates?
func mayHold(now string, sector int, durable string, pending []api.Sector, l []api.Fate) bool {
	if now == durable {
		return true
	}
	for _, w := range pending {
		if w.Index != sector {
			continue
		}
		if now == w.Data {
			return true
		}
		for _, f := range l {
			if f.Kind == api.FateTear && now == tornByChapter(w.Data, f) {
				return true
			}
		}
	}
	return false
}

func TestP3_11_WhatASectorMayHoldBehindAFailure(t *testing.T) {
	for seed := range int64(300) {
		r := rand.New(rand.NewSource(seed))
		d := device.New(5)
		d.Write(0, []byte(randomData(r, 5)))
		d.Sync()
		durable, _ := d.Read(0, 5)
		for range r.Intn(9) {
			d.Write(r.Intn(5), []byte(randomData(r, 1)))
		}
		pending := d.Pending()
		l := randomFates(r, len(pending))
		d.Crash(l)
		d.Revive()
		now, _ := d.Read(0, 5)
		for i := range 5 {
			from, to := i*sectorBytes, (i+1)*sectorBytes
			if !mayHold(string(now[from:to]), i, string(durable[from:to]), pending, l) {
				t.Fatalf("seed %d: the sector %d holds what it may not", seed, i)
			}
		}
	}
}

func TestP3_11_ADeadDevicesRefusalsAreNotSeen(t *testing.T) {
	d := open(t, 3, sectors(at(0, S('o'))))
	d.Arm(0, nil)
	d.Crash(nil)
	wantError(t, "Write", d.Write(0, []byte(S('x')+S('y'))), api.ErrDead)
	wantError(t, "Sync", d.Sync(), api.ErrDead)
	wantSectors(t, "Pending", d.Pending(), nil)
	d.Crash(fates(keep(0), keep(1)))
	d.Revive()
	wantSectors(t, "Pending", d.Pending(), nil)
	wantRead(t, d, 0, 3, S('o')+S(0)+S(0))
	wantError(t, "they were no operations: the arm waits", d.Sync(), api.ErrDead)
	d.Revive()
	wantError(t, "Sync", d.Sync(), nil)
	wantSectors(t, "Durable", d.Durable(), sectors(at(0, S('o'))))
}

// told is what a random call to a device answers, with all that may be asked of it then, but Counts.
func told(r *rand.Rand, d *device.Device) string {
	answer := ""
	switch r.Intn(8) {
	case 0, 1:
		p, err := d.Read(r.Intn(8)-1, r.Intn(8)-1)
		answer = fmt.Sprint(p, err)
	case 2, 3:
		answer = fmt.Sprint(d.Write(r.Intn(8)-1, []byte(randomData(r, r.Intn(4)))))
	case 4:
		answer = fmt.Sprint(d.Sync())
	case 5:
		d.Crash(randomFates(r, len(d.Pending())))
	case 6:
		d.Arm(r.Intn(4)-1, randomFates(r, 4))
	case 7:
		d.Revive()
	}
	return fmt.Sprint(answer, d.Size(), d.Dead(), d.Pending(), d.Durable())
}

func TestP3_11_ADeviceOpenedOverAnothersDurableGoesOnLikeIt(t *testing.T) {
	for seed := range int64(100) {
		r := rand.New(rand.NewSource(seed))
		d := device.New(6)
		for range 30 { // no arm is left at the end
			sector := r.Intn(6)
			d.Arm(0, randomFates(r, 3))
			d.Write(sector, []byte(randomData(r, 1+r.Intn(6-sector))))
			d.Revive()
			d.Write(sector, []byte(randomData(r, 1)))
		}
		d.Crash(randomFates(r, 1))
		again := open(t, d.Size(), d.Durable())
		d.Revive()
		for range 60 {
			call := r.Int63()
			one, two := told(rand.New(rand.NewSource(call)), d), told(rand.New(rand.NewSource(call)), again)
			if one != two {
				t.Fatalf("seed %d: they answer differently", seed)
			}
		}
	}
}

// ---- P3.12 ----

// heap is what lies in memory, rubbish gone.
func heap() uint64 {
	runtime.GC()
	runtime.GC()
	var m runtime.MemStats
	runtime.ReadMemStats(&m)
	return m.HeapAlloc
}

func allocated() uint64 {
	var m runtime.MemStats
	runtime.ReadMemStats(&m)
	return m.TotalAlloc
}

func TestP3_12_AGreatDeviceCostsWhatIsWritten(t *testing.T) {
	before := allocated()
	for range 1000 {
		d := device.New(maxSectors)
		write(t, d, maxSectors-2, S('a')+S('b'))
		write(t, d, 0, S('c'))
		wantError(t, "Sync", d.Sync(), nil)
		write(t, d, maxSectors/2, S('d'))
		d.Crash(fates(keep(0)))
		d.Revive()
		l := d.Durable()
		wantSectors(t, "Durable", l, sectors(at(0, S('c')), at(maxSectors/2, S('d')), at(maxSectors-2, S('a')), at(maxSectors-1, S('b'))))
		wantRead(t, d, maxSectors-3, 3, S(0)+S('a')+S('b'))
		wantRead(t, open(t, maxSectors, l), maxSectors/2, 1, S('d'))
	}
	if spent := allocated() - before; spent > 100<<20 {
		t.Errorf("a thousand great devices took %d bytes", spent)
	}
}

func TestP3_12_ZerosCostNothing(t *testing.T) {
	const n = 60000
	full, zeros := bytes.Repeat([]byte(S('f')), 1000), make([]byte, 1000*sectorBytes)
	before := heap()
	d := device.New(maxSectors)
	for i := 0; i < n; i += 1000 {
		wantError(t, "Write", d.Write(i, full), nil)
		wantError(t, "Sync", d.Sync(), nil)
	}
	held := heap() - before
	for i := 0; i < n; i += 1000 {
		wantError(t, "Write", d.Write(i, zeros), nil)
		wantError(t, "Sync", d.Sync(), nil)
	}
	for i := n; i < 2*n; i += 1000 {
		wantError(t, "Write", d.Write(i, zeros), nil)
		wantError(t, "Sync", d.Sync(), nil)
	}
	left := int64(heap()) - int64(before)
	if left > int64(held)/4 {
		t.Errorf("%d bytes of %d are still held for sectors that are zero", left, held)
	}
	wantSectors(t, "Durable", d.Durable(), nil)
}

// So a read does not go through all that is pending.
func TestP3_12_ManyPendingWritesAndReads(t *testing.T) {
	d := device.New(maxSectors)
	const many = 200000
	data := []byte(S('a'))
	for i := range many {
		d.Write(i, data)
	}
	for i := range many {
		if p, err := d.Read(many-1-i, 1); err != nil || p[511] != 'a' {
			t.Fatalf("Read: %v", err)
		}
	}
	if len(d.Pending()) != many {
		t.Errorf("%d are pending", len(d.Pending()))
	}
	l := make([]api.Fate, 0, 2*many)
	for i := range 2 * many {
		l = append(l, keep(i%many))
	}
	d.Crash(l)
	if len(d.Durable()) != many {
		t.Errorf("%d are durable", len(d.Durable()))
	}
}

// ---- P3.13 ----

func TestP3_13_WrittenBytesAreNotKeptNorChanged(t *testing.T) {
	room := []byte(S('a') + S('b') + S('r'))
	p := room[:2*sectorBytes]
	d := device.New(3)
	wantError(t, "Write", d.Write(0, p), nil)
	wantError(t, "Sync", d.Sync(), nil)
	wantError(t, "Write", d.Write(1, p), nil)
	if string(room) != S('a')+S('b')+S('r') {
		t.Error("Write has changed what it was handed, or the room behind it")
	}
	clear(room)
	wantRead(t, d, 0, 3, S('a')+S('a')+S('b'))
	wantSectors(t, "Pending", d.Pending(), sectors(at(1, S('a')), at(2, S('b'))))
	d.Crash(fates(keep(1)))
	wantSectors(t, "Durable", d.Durable(), sectors(at(0, S('a')), at(1, S('b')), at(2, S('b'))))
}

func TestP3_13_FatesAreNotKeptNorChanged(t *testing.T) {
	room := fates(tear(0, 1, "x"), keep(1), keep(2), drop(9))
	was := slices.Clone(room)
	d := device.New(3)
	d.Arm(1, room[:2])
	d.Arm(0, room[:1])
	if !slices.Equal(room, was) {
		t.Error("Arm has changed the fates")
	}
	clear(room)
	write(t, d, 0, S('a')+S('b')+S('c'))
	wantError(t, "Write", d.Write(0, []byte(S('d'))), api.ErrDead)
	wantSectors(t, "Durable", d.Durable(), sectors(at(0, "ax"+S(0)[2:]), at(1, S('b'))))
	d.Revive()
	wantError(t, "Write", d.Write(2, []byte(S('e'))), api.ErrDead)
	wantSectors(t, "Durable", d.Durable(), sectors(at(0, "ax"+S(0)[2:]), at(1, S('b')), at(2, "ex"+S(0)[2:])))

	room = fates(tear(0, 1, S('j')+"jj"), keep(9), keep(0), drop(1), keep(2))
	was = slices.Clone(room)
	d = device.New(3)
	d.Arm(0, room[:4])
	wantError(t, "Write", d.Write(0, []byte(S('a')+S('b')+S('c'))), api.ErrDead)
	d.Revive()
	write(t, d, 0, S('a')+S('b')+S('c'))
	d.Crash(room[:4])
	if !slices.Equal(room, was) {
		t.Error("Crash or an arm has changed the fates")
	}
	wantSectors(t, "fates behind the list's end do not count", d.Durable(), sectors(at(0, "a"+S('j')[1:])))
}

func TestP3_13_SectorsOfOpenAreNotKeptNorChanged(t *testing.T) {
	room := sectors(at(0, S('a')), at(1, S(0)), at(2, S('c')))
	was := slices.Clone(room)
	d := open(t, 3, room[:2])
	e := open(t, 3, room[:2])
	write(t, d, 0, S('x'))
	d.Sync()
	if !slices.Equal(room, was) {
		t.Error("Open or what came behind it has changed the list")
	}
	clear(room)
	wantSectors(t, "the one", d.Durable(), sectors(at(0, S('x'))))
	wantSectors(t, "the other", e.Durable(), sectors(at(0, S('a'))))
}

// loose is a text whose bytes change with p, which no text should: so it shows whether a text that was handed in was kept.
func loose(p []byte) string { return unsafe.String(&p[0], len(p)) }

func TestP3_13_TextsAreNotKept(t *testing.T) {
	junk, data := []byte(S('j')), []byte(S('d'))
	d := open(t, 2, sectors(at(1, loose(data))))
	d.Arm(0, fates(tear(0, 2, loose(junk))))
	clear(junk)
	clear(data)
	wantRead(t, d, 1, 1, S('d'))
	wantError(t, "Write", d.Write(0, []byte(S('a'))), api.ErrDead)
	wantSectors(t, "Durable", d.Durable(), sectors(at(0, "aa"+S('j')[2:]), at(1, S('d'))))
}

func TestP3_13_AnArmHoldsNoLongText(t *testing.T) {
	d := device.New(1)
	before := heap()
	for range 100 {
		d.Arm(0, fates(tear(0, 0, strings.Repeat("j", 1<<20))))
	}
	if held := int64(heap()) - int64(before); held > 10<<20 {
		t.Errorf("the arms hold %d bytes", held)
	}
	wantError(t, "Write", d.Write(0, []byte(S('a'))), api.ErrDead)
	wantSectors(t, "Durable", d.Durable(), sectors(at(0, S('j'))))
}

func TestP3_13_AnswersAreNewMemory(t *testing.T) {
	d := open(t, 4, sectors(at(0, S('a')), at(3, S('z'))))
	write(t, d, 1, S('b')+S('c'))

	p, _ := d.Read(0, 4)
	q, _ := d.Read(0, 4)
	clear(p[:cap(p)])
	_ = append(q[:0], "spoilt"...)
	_ = append(q, "behind"...)
	wantRead(t, d, 0, 4, S('a')+S('b')+S('c')+S('z'))

	for _, tell := range []func() []api.Sector{d.Durable, d.Pending} {
		want := slices.Clone(tell())
		one, two := tell(), tell()
		clear(one[:cap(one)])
		wantSectors(t, "another answer", two, want)
		_ = append(two[:1], at(9, "spoilt"))
		wantSectors(t, "a later answer", tell(), want)
	}
	write(t, d, 0, S('n'))
	was := d.Pending()
	write(t, d, 0, S('m'))
	_ = append(was, at(2, S('s')))
	wantSectors(t, "Pending", d.Pending(), sectors(at(1, S('b')), at(2, S('c')), at(0, S('n')), at(0, S('m'))))
	wantSectors(t, "an earlier answer", was, sectors(at(1, S('b')), at(2, S('c')), at(0, S('n'))))
	durable := d.Durable()
	d.Sync()
	wantSectors(t, "an earlier answer", durable, sectors(at(0, S('a')), at(3, S('z'))))
}

func TestP3_13_NoCallPanics(t *testing.T) {
	odd := []int{math.MinInt, math.MinInt + 1, -1, 0, 1, 2, 3, 511, 512, 513, 1024, 1025, maxSectors, maxSectors + 1, math.MaxInt - 1, math.MaxInt}
	texts := []string{"", "x", S('a')[1:], S('a'), S('a') + "a", S('a') + S('b')}
	for _, a := range odd {
		d := device.New(a)
		for _, b := range odd {
			for _, text := range texts {
				device.Open(a, sectors(at(b, text)))
				device.Open(a, sectors(at(b, text), at(a, text)))
				d.Read(b, a)
				d.Write(b, []byte(text))
				d.Arm(b, fates(api.Fate{Index: a, Kind: b, Cut: a, Junk: text}))
				d.Sync()
				d.Revive()
				d.Write(0, []byte(S('w')))
				d.Crash(fates(tear(0, b, text), tear(a, b, text)))
				d.Revive()
				d.Durable()
				d.Pending()
				d.Counts()
			}
		}
	}
}

// ---- the chapter's examples ----

func TestExamples(t *testing.T) {
	wantSectors(t, "Open", open(t, 4, sectors(at(1, S('a')), at(3, S(0)))).Durable(), sectors(at(1, S('a'))))
	d := device.New(4)
	write(t, d, 1, S('a')+S('b'))
	wantRead(t, d, 0, 4, S(0)+S('a')+S('b')+S(0))
	wantSectors(t, "Pending", d.Pending(), sectors(at(1, S('a')), at(2, S('b'))))
	wantSectors(t, "Durable", d.Durable(), nil)
	wantError(t, "Write", d.Write(3, []byte(S('a')+S('b'))), api.ErrArg)
	wantError(t, "Write", d.Write(-1, []byte(S('a'))), api.ErrArg)
	wantError(t, "Write", d.Write(0, nil), api.ErrArg)
	wantError(t, "Write", d.Write(0, []byte(S('a')[1:])), api.ErrArg)
	_, err := d.Read(2, 3)
	wantError(t, "Read", err, api.ErrArg)
	_, err = d.Read(0, -1)
	wantError(t, "Read", err, api.ErrArg)
	wantRead(t, d, 4, 0, "")

	write(t, d, 1, S('c'))
	d.Crash(fates(keep(2), keep(0)))
	wantSectors(t, "Durable", d.Durable(), sectors(at(1, S('a'))))
	_, err = d.Read(0, 1)
	wantError(t, "Read", err, api.ErrDead)

	d.Revive()
	write(t, d, 0, S('d'))
	d.Crash(fates(tear(0, 3, "xy")))
	wantSectors(t, "Durable", d.Durable(), sectors(at(0, "dddxy"+S(0)[5:]), at(1, S('a'))))

	d.Revive()
	d.Arm(1, fates(keep(0)))
	write(t, d, 2, S('e'))
	wantError(t, "Write", d.Write(3, []byte(S('f'))), api.ErrDead)
	if !d.Dead() {
		t.Error("it is alive")
	}
	wantSectors(t, "Durable", d.Durable(), sectors(at(0, "dddxy"+S(0)[5:]), at(1, S('a')), at(2, S('e'))))

	d.Revive()
	d.Arm(0, nil)
	wantError(t, "Sync", d.Sync(), api.ErrDead)
	d.Revive()
	wantError(t, "Sync", d.Sync(), nil)
	wantCounts(t, d, 4, 6, 2)
}
