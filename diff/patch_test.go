package diff_test

import (
	"math/rand"
	"slices"
	"testing"

	"copse/api"
	"copse/diff"
)

func wantPairs(t *testing.T, what string, got []api.Pair, err error, want []api.Pair, wantErr error) {
	t.Helper()
	if !slices.Equal(got, want) || err != wantErr {
		t.Errorf("%s: %s, %v, want %s, %v", what, show(got), err, show(want), wantErr)
	}
}

func TestP19_4_Examples(t *testing.T) {
	for _, c := range []struct {
		a    []api.Pair
		l    []api.Change
		want []api.Pair
		err  error
	}{
		{pairs("a=1"), changes(turned("a", "1", "2"), has("b", "5")), pairs("a=2", "b=5"), nil},
		{pairs("a=1"), changes(had("a", "2")), nil, api.ErrLost},
		{nil, changes(had("a", "")), nil, api.ErrLost},
		{pairs("a=1"), changes(has("a", "2")), nil, api.ErrLost},
		{pairs("a=1"), changes(turned("a", "1", "1")), pairs("a=1"), nil},
	} {
		l, err := diff.Patch(c.a, c.l)
		wantPairs(t, show(c.a)+" with "+show(c.l), l, err, c.want, c.err)
	}
}

func TestP19_4_FitsOrNot(t *testing.T) {
	oldWithoutHad := api.Change{Key: "b", Old: "1", Has: true, New: "2"}
	newWithoutHas := api.Change{Key: "a", Had: true, Old: "1", New: "2"}
	for _, c := range []struct {
		a    []api.Pair
		l    []api.Change
		want []api.Pair
		err  error
	}{
		{nil, nil, nil, nil},
		{pairs("a=1", "b=2"), nil, pairs("a=1", "b=2"), nil},
		{nil, changes(has("a", "1")), pairs("a=1"), nil},
		{nil, changes(has("a", "")), pairs("a="), nil},
		{pairs("a="), changes(had("a", "")), nil, nil},
		{pairs("a=1"), changes(had("a", "1")), nil, nil},
		{pairs("b=1"), changes(has("a", "0"), has("c", "2")), pairs("a=0", "b=1", "c=2"), nil},
		{pairs("a=1", "b=2", "c=3"), changes(had("b", "2")), pairs("a=1", "c=3"), nil},
		{pairs("a=1"), changes(absent("0"), turned("a", "1", "1"), absent("b")), pairs("a=1"), nil},
		{pairs("a=1"), changes(newWithoutHas), nil, nil},
		{nil, changes(api.Change{Key: "a", New: "x"}), nil, nil},
		{pairs("b=1"), changes(absent("b")), nil, api.ErrLost},
		{pairs("b="), changes(absent("b")), nil, api.ErrLost},
		{pairs("b=1"), changes(has("b", "1")), nil, api.ErrLost},
		{nil, changes(turned("a", "1", "1")), nil, api.ErrLost},
		{nil, changes(turned("a", "", "")), nil, api.ErrLost},
		{pairs("a=1"), changes(turned("a", "", "2")), nil, api.ErrLost},
		{pairs("a=1"), changes(turned("a", "11", "2")), nil, api.ErrLost},
		{nil, changes(oldWithoutHad), nil, api.ErrLost},
		{pairs("b=1"), changes(oldWithoutHad), nil, api.ErrLost},
		{pairs("a=1", "b=2"), changes(turned("a", "1", "2"), turned("b", "9", "2")), nil, api.ErrLost},
		{pairs("a=1", "b=2"), changes(turned("a", "9", "2"), turned("b", "2", "3")), nil, api.ErrLost},
		{pairs("a=1"), changes(turned("a", "1", "2"), had("z", "")), nil, api.ErrLost},
	} {
		l, err := diff.Patch(c.a, c.l)
		wantPairs(t, show(c.a)+" with "+show(c.l), l, err, c.want, c.err)
	}
}

// A list that does not rise is told ahead of a change that does not fit, wherever the two stand.
func TestP19_4_OrderAheadOfLost(t *testing.T) {
	state := pairs("a=1", "b=2", "c=3")
	for _, c := range []struct {
		a []api.Pair
		l []api.Change
	}{
		{state, changes(has("b", "1"), turned("a", "1", "2"))},
		{state, changes(turned("a", "1", "2"), turned("a", "2", "3"))},
		{state, changes(had("a", "9"), had("c", "3"), had("b", "2"))},
		{state, changes(absent("z"), absent("z"))},
		{nil, changes(has("a\x00", "1"), has("a", "1"))},
		{pairs("b=1", "a=1"), nil},
		{pairs("b=1", "a=1"), changes(had("a", "9"))},
		{pairs("a=1", "b=2", "b=2"), changes(turned("a", "1", "2"))},
		{pairs("a=1", "a=1"), changes(has("b", "1"), had("b", "1"))},
		{pairs("c=1", "d=1", "\xff=1", "\x00=1"), changes(had("a", ""))},
	} {
		l, err := diff.Patch(c.a, c.l)
		wantPairs(t, show(c.a)+" with "+show(c.l), l, err, nil, api.ErrOrder)
	}
}

func TestP19_4_AllSmallChanges(t *testing.T) {
	keys, seen := []string{"a", "a\x00"}, map[error]int{}
	lists := smallChanges(keys, "", "1")
	lists = append(lists, changes(absent("b"), absent("a")), changes(absent("a"), absent("a")))
	for _, b := range smallStates([]string{"a", "a\x00", "z"}, "", "1") {
		for _, l := range lists {
			want, wantErr := plainPatch(b.pairs(), l)
			got, err := diff.Patch(b.pairs(), l)
			wantPairs(t, show(b)+" with "+show(l), got, err, want, wantErr)
			seen[err]++
		}
	}
	if seen[nil] < 500 || seen[api.ErrLost] < 500 || seen[api.ErrOrder] == 0 {
		t.Errorf("%v", seen)
	}
}

// strewn is the changes between two states with idle ones among them, and in every third list something wrong.
func strewn(r *rand.Rand, a, b book) []api.Change {
	var l []api.Change
	named := bookOf(append(b.pairs(), pairs("nowhere=1", "neither=2", "zz=")...))
	for _, k := range union(a, named) {
		old, had := a[k]
		now, has := b[k]
		if c := (api.Change{Key: k, Had: had, Has: has, Old: old, New: now}); !plainIdle(c) || r.Intn(3) == 0 {
			l = append(l, c)
		}
	}
	if len(l) == 0 || r.Intn(3) > 0 {
		return l
	}
	c := &l[r.Intn(len(l))]
	switch r.Intn(3) {
	case 0:
		c.Old += "x"
	case 1:
		c.Had = !c.Had
	default:
		c.Key += "k"
	}
	return l
}

func TestP19_4_ManyStates(t *testing.T) {
	r, seen := rand.New(rand.NewSource(194)), map[error]int{}
	for range 600 {
		a, b := randomState(r, manyKeys(), oddValues()), randomState(r, manyKeys(), oddValues())
		l := strewn(r, a, b)
		want, wantErr := plainPatch(a.pairs(), l)
		got, err := diff.Patch(a.pairs(), l)
		wantPairs(t, "many", got, err, want, wantErr)
		seen[err]++
	}
	if seen[nil] < 100 || seen[api.ErrLost] < 50 {
		t.Errorf("%v", seen)
	}
}

func TestP19_6_Invert(t *testing.T) {
	for _, c := range []struct{ l, want []api.Change }{
		{changes(had("a", "1"), has("b", "2")), changes(has("a", "1"), had("b", "2"))},
		{nil, nil},
		{[]api.Change{}, nil},
		{changes(turned("c", "3", "4")), changes(turned("c", "4", "3"))},
		{changes(absent("a"), turned("b", "", ""), had("c", ""), has("d", "")), changes(absent("a"), turned("b", "", ""), has("c", ""), had("d", ""))},
		{changes(had("b", "1"), had("a", "2"), had("a", "2")), changes(has("b", "1"), has("a", "2"), has("a", "2"))},
		{changes(api.Change{Old: "o", New: "n"}, api.Change{Key: "k", Had: true, New: "n"}), changes(api.Change{Old: "n", New: "o"}, api.Change{Key: "k", Has: true, Old: "n"})},
	} {
		if l := diff.Invert(c.l); !slices.Equal(l, c.want) {
			t.Errorf("Invert(%v) = %v, want %v", c.l, l, c.want)
		}
	}
}

func TestP19_6_InvertTwice(t *testing.T) {
	for _, l := range smallChanges([]string{"a", "b"}, "", "1") {
		back := diff.Invert(l)
		if len(back) != len(l) || !slices.Equal(keysOf(back), keysOf(l)) {
			t.Errorf("Invert(%v) = %v", l, back)
		}
		for i, c := range back {
			if c.Had != l[i].Has || c.Has != l[i].Had || c.Old != l[i].New || c.New != l[i].Old {
				t.Errorf("Invert(%v) = %v", l, back)
			}
		}
		if again := diff.Invert(back); !slices.Equal(again, l) {
			t.Errorf("inverted twice %v is %v", l, again)
		}
	}
}
