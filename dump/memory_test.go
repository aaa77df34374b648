package dump_test

import (
	"slices"
	"strings"
	"testing"
	"unsafe"

	"copse/api"
	"copse/device"
	"copse/dump"
)

// memory is texts that can be written over.
type memory struct{ all [][]byte }

func (m *memory) text(s string) string {
	if s == "" {
		return ""
	}
	p := []byte(s)
	m.all = append(m.all, p)
	return unsafe.String(&p[0], len(p))
}

func (m *memory) scrawl() {
	for _, p := range m.all {
		for i := range p {
			p[i] = '#'
		}
	}
}

// pairs is a list in memory of its own, with something behind its end.
func (m *memory) pairs(l []api.Pair) []api.Pair {
	var wide []api.Pair
	for _, p := range append(slices.Clone(l), pairs("behind", "1", "a", "9", "", "")...) {
		wide = append(wide, api.Pair{Key: m.text(p.Key), Value: m.text(p.Value)})
	}
	return wide[:len(l)]
}

func (m *memory) lines(l []string) []string {
	var wide []string
	for _, line := range append(slices.Clone(l), "put behind 1", "end 1", "x") {
		wide = append(wide, m.text(line))
	}
	return wide[:len(l)]
}

// wholePairs is a list with all that lies in its room, in memory of its own.
func wholePairs(l []api.Pair) []api.Pair {
	var all []api.Pair
	for _, p := range l[:cap(l)] {
		all = append(all, api.Pair{Key: strings.Clone(p.Key), Value: strings.Clone(p.Value)})
	}
	return all
}

func wholeLines(l []string) []string {
	var all []string
	for _, line := range l[:cap(l)] {
		all = append(all, strings.Clone(line))
	}
	return all
}

// fill writes over a list and the room behind it.
func fill[T any](l []T, by T) {
	wide := l[:cap(l)]
	for i := range wide {
		wide[i] = by
	}
}

func someLists() [][]api.Pair {
	return [][]api.Pair{nil, pairs("a", "1"), pairs("a", "long enough to be seen", "b c", ""), oddPairs(), alike(5, 960), alike(120, 300), stand(slices.Repeat([]int{255}, 17)...), pairs("b", "1", "a", "1"), pairs("", "1"), pairs("a", "1", "a", "1")}
}

func TestP21_7_Bulk(t *testing.T) {
	for _, l := range someLists() {
		var m memory
		loose := m.pairs(l)
		before := wholePairs(loose)
		d := device.New(8 * 200)
		err := dump.Bulk(d, loose)
		if err != plainFault(l) || !slices.Equal(wholePairs(loose), before) {
			t.Errorf("Bulk of %s: %v, or what was handed in has changed", show(l), err)
		}
		fill(loose, api.Pair{Key: "scrawl", Value: "scrawl"})
		m.scrawl()
		if err == nil {
			wantHeld(t, "behind a scrawl", d, 1, l)
			wantBulk(t, "again", d, l)
			must(t, dump.Bulk(d, l))
			wantHeld(t, "again", d, 1, l)
		}
	}
}

func TestP21_7_Read(t *testing.T) {
	lists := [][]string{nil, {"put a 1"}, {"end 1"}, {"put b 1", "put a 1", "end 2"}, {"put a 1", "end 1"}, {`put "a\x00" bare`, `put b "quoted"`, "end 2"}}
	for _, l := range someLists() {
		lists = append(lists, plainLines(l))
	}
	for _, lines := range lists {
		want, wantErr := plainRead(lines)
		var m memory
		loose := m.lines(lines)
		before := wholeLines(loose)
		got, err := dump.Read(loose)
		again, errAgain := dump.Read(loose)
		if !slices.Equal(wholeLines(loose), before) {
			t.Errorf("Read(%s) has changed its lines, or what lies behind them", show(lines))
		}
		fill(loose, "end 0")
		m.scrawl()
		if err != wantErr || errAgain != wantErr || !slices.Equal(got, want) || !slices.Equal(again, want) {
			t.Errorf("Read(%s): %s, %v, and then %s, %v", show(lines), show(got), err, show(again), errAgain)
		}
		fill(again, api.Pair{Key: "scrawl"})
		if !slices.Equal(got, want) {
			t.Errorf("Read(%s): two answers share memory", show(lines))
		}
	}
}

func TestP21_7_Load(t *testing.T) {
	for _, l := range someLists() {
		var m memory
		loose := m.lines(plainLines(l))
		before := wholeLines(loose)
		d := device.New(8 * 300)
		err := dump.Load(d, loose)
		if err != plainFault(l) || !slices.Equal(wholeLines(loose), before) {
			t.Errorf("Load of %s: %v, or what was handed in has changed", show(l), err)
		}
		fill(loose, "x")
		m.scrawl()
		if err == nil {
			wantHeld(t, "behind a scrawl", d, uint64(len(l)+99)/100, l)
		}
	}
}

func TestP21_7_Dump(t *testing.T) {
	for _, l := range someLists() {
		if plainFault(l) != nil {
			continue
		}
		d := device.New(8 * 200)
		must(t, dump.Bulk(d, l))
		want := plainLines(l)
		got, err := dump.Dump(d)
		again, errAgain := dump.Dump(d)
		fill(again, "scrawl")
		if err != nil || errAgain != nil || !slices.Equal(got, want) {
			t.Errorf("Dump of %s: %s, %v, %v", show(l), show(got), err, errAgain)
		}
		must(t, dump.Bulk(d, pairs("other", "1")))
		if !slices.Equal(got, want) {
			t.Errorf("Dump of %s has heard of a later Bulk", show(l))
		}
		wantLines(t, "the later Bulk", d, []string{"put other 1", "end 1"}, nil)
	}
}

// The same calls have the same answers, and the same bytes on the device (P0.2).
func TestP21_7_AskedTwice(t *testing.T) {
	for _, l := range someLists() {
		var images []image
		for range 2 {
			d := device.New(8 * 300)
			loadErr := dump.Load(d, plainLines(l))
			images = append(images, imageOf(d))
			bulkErr := dump.Bulk(d, l)
			images = append(images, imageOf(d))
			if want := plainFault(l); loadErr != want || bulkErr != want {
				t.Errorf("%s: Load: %v, Bulk: %v", show(l), loadErr, bulkErr)
			}
		}
		wantSame(t, "two loads", images[0], images[2])
		wantSame(t, "two bulks", images[1], images[3])
	}
}

// No device at all counts as one without sectors.
func TestP21_7_NoDevice(t *testing.T) {
	for _, d := range []*device.Device{nil, device.New(0), {}} {
		if lines, err := dump.Dump(d); len(lines) != 0 || err != api.ErrCorrupt {
			t.Errorf("Dump: %s, %v", show(lines), err)
		}
		for _, c := range []struct {
			l   []api.Pair
			err error
		}{
			{nil, api.ErrArg}, {pairs("a", "1"), api.ErrArg}, {alike(100, 960), api.ErrArg}, {pairs("b", "", "a", ""), api.ErrOrder}, {pairs("", ""), api.ErrArg},
		} {
			if err := dump.Bulk(d, c.l); err != c.err {
				t.Errorf("Bulk of %s: %v, want %v", show(c.l), err, c.err)
			}
			if err := dump.Load(d, plainLines(c.l)); err != c.err {
				t.Errorf("Load of %s: %v, want %v", show(c.l), err, c.err)
			}
		}
		if err := dump.Load(d, nil); err != api.ErrShort {
			t.Errorf("Load of no lines: %v", err)
		}
	}
}
