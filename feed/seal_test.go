package feed_test

import (
	"math"
	"math/rand"
	"slices"
	"strings"
	"testing"

	"copse/api"
	"copse/codec"
	"copse/feed"
)

// wantSealed holds Seal against the chapter's words.
func wantSealed(t *testing.T, from, to uint64, l []api.Change) error {
	t.Helper()
	want, wantErr := api.Batch{}, plainFault(from, to, l)
	if wantErr == nil {
		want = api.Batch{From: from, To: to, Changes: l, Sum: plainSum(from, to, l)}
	}
	b, err := feed.Seal(from, to, l)
	if err != wantErr || !same(b, want) || err != nil && !zero(b) {
		t.Errorf("Seal(%d, %d, %s) = %s, %v, want %v", from, to, show(l), show(b), err, wantErr)
	}
	return wantErr
}

func TestP20_3_Examples(t *testing.T) {
	for _, c := range []struct {
		from, to uint64
		l        []api.Change
		err      error
	}{
		{3, 3, nil, api.ErrArg},
		{3, 2, nil, api.ErrArg},
		{0, 1, changes(api.Change{Key: "a"}), api.ErrArg},
		{0, 1, changes(turned("a", "1", "1")), api.ErrArg},
		{0, 1, changes(has("b", "1"), has("a", "1")), api.ErrOrder},
		{0, 1, changes(has("a", "1"), has("a", "1")), api.ErrOrder},
		{0, 1, changes(has("\xff\x66\x65\x65\x64", "1")), api.ErrKind},
	} {
		if b, err := feed.Seal(c.from, c.to, c.l); err != c.err || !zero(b) {
			t.Errorf("Seal(%d, %d, %s) = %v, %v, want %v", c.from, c.to, show(c.l), b, err, c.err)
		}
	}
	b, err := feed.Seal(0, 1, nil)
	twenty := []byte{0, 0, 0, 0, 0, 0, 0, 0, 0, 0, 0, 0, 0, 0, 0, 1, 0, 0, 0, 0}
	if err != nil || b.From != 0 || b.To != 1 || len(b.Changes) != 0 || b.Sum != codec.Crc(twenty) {
		t.Errorf("Seal(0, 1, none) = %v, %v", b, err)
	}
}

// The bytes of each part, written out by hand.
func TestP20_3_TheSumByteByByte(t *testing.T) {
	long := strings.Repeat("v", 700)
	for _, c := range []struct {
		from, to uint64
		l        []api.Change
		bytes    string
	}{
		{0x0102030405060708, 0x1112131415161718, nil, "\x01\x02\x03\x04\x05\x06\x07\x08" + "\x11\x12\x13\x14\x15\x16\x17\x18" + "\x00\x00\x00\x00"},
		{0, math.MaxUint64, changes(has("a", "")), "\x00\x00\x00\x00\x00\x00\x00\x00" + "\xff\xff\xff\xff\xff\xff\xff\xff" + "\x00\x00\x00\x01" +
			"\x00\x00\x00\x01a" + "\x00" + "\x00\x00\x00\x00" + "\x01" + "\x00\x00\x00\x00"},
		{1, 2, changes(had("a", "")), "\x00\x00\x00\x00\x00\x00\x00\x01" + "\x00\x00\x00\x00\x00\x00\x00\x02" + "\x00\x00\x00\x01" +
			"\x00\x00\x00\x01a" + "\x01" + "\x00\x00\x00\x00" + "\x00" + "\x00\x00\x00\x00"},
		{1, 2, changes(turned("ab", "x\x00", long), had("b", "yz")), "\x00\x00\x00\x00\x00\x00\x00\x01" + "\x00\x00\x00\x00\x00\x00\x00\x02" + "\x00\x00\x00\x02" +
			"\x00\x00\x00\x02ab" + "\x01" + "\x00\x00\x00\x02x\x00" + "\x01" + "\x00\x00\x02\xbc" + long +
			"\x00\x00\x00\x01b" + "\x01" + "\x00\x00\x00\x02yz" + "\x00" + "\x00\x00\x00\x00"},
	} {
		b, err := feed.Seal(c.from, c.to, c.l)
		if err != nil || b.Sum != codec.Crc([]byte(c.bytes)) || b.From != c.from || b.To != c.to || !slices.Equal(b.Changes, c.l) {
			t.Errorf("Seal(%d, %d, %s) = %s, %v", c.from, c.to, show(c.l), show(b), err)
		}
	}
}

// 300 changes: the number of them takes more than a byte.
func TestP20_3_ManyChanges(t *testing.T) {
	l := plainChanges(book{}, numbered(300, 9))
	if err := wantSealed(t, 7, 9, l); err != nil {
		t.Error(err)
	}
	if err := wantSealed(t, 7, 9, append(l, l[299])); err != api.ErrOrder {
		t.Error(err)
	}
}

func TestP20_3_FromAndTo(t *testing.T) {
	const most = math.MaxUint64
	numbers := []uint64{0, 1, 2, 255, 256, 1<<32 - 1, 1 << 32, 1<<63 - 1, 1 << 63, 1<<63 + 1, most - 1, most}
	for _, from := range numbers {
		for _, to := range numbers {
			err := wantSealed(t, from, to, changes(has("a", "1")))
			if (err == nil) != (to > from) {
				t.Errorf("%d, %d: %v", from, to, err)
			}
		}
	}
}

// Every way of Had and Has, each with values from none to one that is too long.
func TestP20_3_EveryFormOfAChange(t *testing.T) {
	texts := []string{"", "1", "2", "\x00", strings.Repeat("v", 699), strings.Repeat("v", 700), strings.Repeat("v", 701), strings.Repeat("w", 701)}
	keys := []string{"", "\x00", "a", strings.Repeat("k", 254), strings.Repeat("k", 255), strings.Repeat("k", 256), strings.Repeat("k", 1000)}
	may := 0
	for _, key := range keys {
		for form := range 4 {
			for _, old := range texts {
				for _, now := range texts {
					c := api.Change{Key: key, Had: form&1 != 0, Has: form&2 != 0, Old: old, New: now}
					if wantSealed(t, 0, 1, changes(c)) == nil {
						may++
					}
				}
			}
		}
	}
	if want := 4 * (6 + 6 + 30); may != want { // of six texts that are not too long: had alone, has alone, and both, unlike
		t.Errorf("%d changes may be, want %d", may, want)
	}
}

// A change that may not be counts wherever it stands.
func TestP20_3_AWrongChangeAmongOthers(t *testing.T) {
	good := changes(has("b", "1"), had("d", "1"), turned("f", "1", "2"), has("h", ""))
	wrong := func(key string) []api.Change {
		return changes(api.Change{Key: key}, turned(key, "", ""), api.Change{Key: key, Has: true, Old: "x"}, api.Change{Key: key, Had: true, New: "x"}, has(key, strings.Repeat("v", 701)), has(key+strings.Repeat("k", 255), ""))
	}
	for i, key := range []string{"a", "c", "e", "g", "i"} {
		for _, c := range wrong(key) {
			if err := wantSealed(t, 5, 6, slices.Insert(slices.Clone(good), i, c)); err != api.ErrArg {
				t.Errorf("%s at %d: %v", show(c), i, err)
			}
		}
	}
}

func TestP20_3_KeysThatDoNotRise(t *testing.T) {
	good := []string{"\x00", "\x00\x00", "a", "a\x00", "a\x00\x00", "aa", "a\xff", "b", "\xfe", "\xff", "\xff\x00"}
	list := func(keys []string) []api.Change {
		var l []api.Change
		for _, k := range keys {
			l = append(l, has(k, "1"))
		}
		return l
	}
	if err := wantSealed(t, 0, 1, list(good)); err != nil {
		t.Error(err)
	}
	for i := range len(good) - 1 {
		twice, swapped, late := slices.Clone(good), slices.Clone(good), append(slices.Clone(good), good[i])
		twice[i+1] = good[i]
		swapped[i], swapped[i+1] = good[i+1], good[i]
		for _, keys := range [][]string{twice, swapped, late} {
			if err := wantSealed(t, 0, 1, list(keys)); err != api.ErrOrder {
				t.Errorf("%q: %v", keys, err)
			}
		}
	}
}

func TestP20_3_TheOwnKeyAndThoseBesideIt(t *testing.T) {
	for _, c := range changes(has(own, ""), has(own, eight(1)), had(own, "1"), turned(own, "1", "2")) {
		for _, l := range [][]api.Change{changes(c), changes(has("a", "1"), c), changes(c, has("\xff\xff", "1")), changes(has("\xfffeec", "1"), c, has(own+"\x00", "1"))} {
			if err := wantSealed(t, 0, 1, l); err != api.ErrKind {
				t.Errorf("%s: %v", show(l), err)
			}
		}
	}
	for _, key := range []string{"feed", "\xff", "\xfff", "\xfffee", "\xfffeec", "\xfffeec\xff", own + "\x00", own + own, "\xfffeee", "\xffFEED", "\xfefeed", "\xff\xfffeed", "a" + own} {
		if err := wantSealed(t, 0, 1, changes(has(key, "1"))); err != nil {
			t.Errorf("%q: %v", key, err)
		}
	}
}

// Of several faults the first of the chapter's order is told, wherever they stand.
func TestP20_3_SeveralFaults(t *testing.T) {
	for _, c := range []struct {
		from, to uint64
		l        []api.Change
		err      error
	}{
		{1, 1, changes(has("b", "1"), has("a", "1")), api.ErrArg},
		{1, 0, changes(has(own, "1")), api.ErrArg},
		{1, 1, changes(has(own, "1"), has("a", "1"), api.Change{}), api.ErrArg},
		{0, 1, changes(has("b", "1"), has("a", "1"), turned("c", "1", "1")), api.ErrArg},
		{0, 1, changes(has("b", "1"), api.Change{Key: "a"}), api.ErrArg},
		{0, 1, changes(has(own, "1"), has("\xff\xff", strings.Repeat("v", 701))), api.ErrArg},
		{0, 1, changes(api.Change{Key: own}), api.ErrArg},
		{0, 1, changes(has(own, "1"), has("a", "1")), api.ErrOrder},
		{0, 1, changes(has(own, "1"), has(own, "1")), api.ErrOrder},
		{0, 1, changes(has(own, "1"), has("\xff\xff", "1"), has("\xff\xff", "1")), api.ErrOrder},
		{0, 1, changes(has("b", "1"), has("a", "1"), has(own, "1")), api.ErrOrder},
	} {
		if err := wantSealed(t, c.from, c.to, c.l); err != c.err {
			t.Errorf("Seal(%d, %d, %s): %v, want %v", c.from, c.to, show(c.l), err, c.err)
		}
	}
}

func TestP20_3_AnyBatch(t *testing.T) {
	r, seen := rand.New(rand.NewSource(203)), map[error]int{}
	keys := append(oddKeys(), own, "", strings.Repeat("k", 256))
	for range 20000 {
		var l []api.Change
		for range r.Intn(4) {
			c := api.Change{Key: keys[r.Intn(len(keys))], Had: r.Intn(2) == 0, Has: r.Intn(2) == 0}
			if c.Had || r.Intn(9) == 0 {
				c.Old = oddValues()[r.Intn(6)]
			}
			if c.Has || r.Intn(9) == 0 {
				c.New = oddValues()[r.Intn(6)]
			}
			l = append(l, c)
		}
		if r.Intn(2) == 0 {
			slices.SortFunc(l, func(a, b api.Change) int { return strings.Compare(a.Key, b.Key) })
		}
		from := r.Uint64() >> r.Intn(64)
		seen[wantSealed(t, from, from+uint64(r.Intn(5)), l)]++
	}
	if seen[nil] < 1000 || seen[api.ErrArg] < 1000 || seen[api.ErrOrder] < 500 || seen[api.ErrKind] < 100 {
		t.Errorf("%v", seen)
	}
}
