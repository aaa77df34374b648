package diff_test

import (
	"math/rand"
	"slices"
	"strings"
	"testing"

	"copse/api"
	"copse/diff"
)

func wantChanges(t *testing.T, what string, got []api.Change, err error, want []api.Change, wantErr error) {
	t.Helper()
	if !slices.Equal(got, want) || err != wantErr {
		t.Errorf("%s: %s, %v, want %s, %v", what, show(got), err, show(want), wantErr)
	}
}

func TestP19_1_Examples(t *testing.T) {
	for _, c := range []struct {
		a, b []api.Pair
		want []api.Change
		err  error
	}{
		{pairs("a=1", "b=2"), pairs("b=3", "c=4"), changes(had("a", "1"), turned("b", "2", "3"), has("c", "4")), nil},
		{pairs("a=1"), pairs("a=1"), nil, nil},
		{pairs("b=1", "a=1"), nil, nil, api.ErrOrder},
		{nil, pairs("a=1", "a=2"), nil, api.ErrOrder},
	} {
		l, err := diff.Lists(c.a, c.b)
		wantChanges(t, show(c.a)+" to "+show(c.b), l, err, c.want, c.err)
	}
}

func TestP19_1_NoneOneAndMany(t *testing.T) {
	for _, c := range []struct {
		a, b []api.Pair
		want []api.Change
	}{
		{nil, nil, nil},
		{[]api.Pair{}, []api.Pair{}, nil},
		{nil, pairs("a=1"), changes(has("a", "1"))},
		{pairs("a=1"), nil, changes(had("a", "1"))},
		{pairs("a=1"), pairs("a=2"), changes(turned("a", "1", "2"))},
		{pairs("a="), nil, changes(had("a", ""))},
		{nil, pairs("a="), changes(has("a", ""))},
		{pairs("a="), pairs("a="), nil},
		{pairs("a="), pairs("a=1"), changes(turned("a", "", "1"))},
		{pairs("a=1"), pairs("a="), changes(turned("a", "1", ""))},
		{pairs("a=1"), pairs("b=1"), changes(had("a", "1"), has("b", "1"))},
		{pairs("b=1"), pairs("a=1"), changes(has("a", "1"), had("b", "1"))},
		{pairs("=1"), pairs("=2", "a="), changes(turned("", "1", "2"), has("a", ""))},
		{pairs("a=1", "a\x00=2"), pairs("a=1", "a\x00\x00=2"), changes(had("a\x00", "2"), has("a\x00\x00", "2"))},
		{pairs("a=1", "\xff=2"), pairs("\x00=1", "a\xff=2"), changes(has("\x00", "1"), had("a", "1"), has("a\xff", "2"), had("\xff", "2"))},
		{pairs("a=1", "b=1", "c=1", "d=1"), pairs("d=1"), changes(had("a", "1"), had("b", "1"), had("c", "1"))},
		{pairs("a=1"), pairs("a=1", "b=1", "c=1", "d=1"), changes(has("b", "1"), has("c", "1"), has("d", "1"))},
	} {
		l, err := diff.Lists(c.a, c.b)
		wantChanges(t, show(c.a)+" to "+show(c.b), l, err, c.want, nil)
	}
}

// Keys are compared by their bytes, not by letters, runes or lengths.
func TestP19_1_KeysAreBytes(t *testing.T) {
	keys := oddKeys()
	slices.SortFunc(keys, strings.Compare)
	all := book{}
	for i, k := range keys {
		all[k] = oddValues()[i%8]
	}
	l, err := diff.Lists(nil, all.pairs())
	wantChanges(t, "from none", l, err, plainLists(nil, all), nil)
	for i := range keys {
		less := bookOf(all.pairs())
		delete(less, keys[i])
		l, err := diff.Lists(all.pairs(), less.pairs())
		wantChanges(t, "without "+show(keys[i]), l, err, changes(had(keys[i], all[keys[i]])), nil)
	}
}

func TestP19_1_AllSmallStates(t *testing.T) {
	states := smallStates([]string{"a", "a\x00", "b"}, "", "1", "2")
	for _, a := range states {
		for _, b := range states {
			l, err := diff.Lists(a.pairs(), b.pairs())
			wantChanges(t, show(a)+" to "+show(b), l, err, plainLists(a, b), nil)
			if !plainClean(l) {
				t.Errorf("%v to %v: %v is not clean", a, b, l)
			}
		}
	}
}

func TestP19_1_ManyStates(t *testing.T) {
	r, met := rand.New(rand.NewSource(191)), 0
	for range 400 {
		a, b := randomState(r, manyKeys(), oddValues()), randomState(r, manyKeys(), oddValues())
		l, err := diff.Lists(a.pairs(), b.pairs())
		wantChanges(t, "many", l, err, plainLists(a, b), nil)
		if !plainClean(l) {
			t.Error("the changes are not clean")
		}
		met += len(l)
	}
	if met < 10000 {
		t.Errorf("%d changes alone", met)
	}
}

// spoilt is lists that do not rise, one for each place of a rising list and each way to go wrong there.
func spoilt(l []api.Pair) [][]api.Pair {
	var all [][]api.Pair
	for i := 1; i < len(l); i++ {
		twice := slices.Clone(l)
		twice[i].Key = strings.Clone(l[i-1].Key)
		swapped := slices.Clone(l)
		swapped[i-1], swapped[i] = l[i], l[i-1]
		repeated := slices.Insert(slices.Clone(l), i, l[i-1])
		low := slices.Clone(l)
		low[i].Key = ""
		all = append(all, twice, swapped, repeated, low)
	}
	return all
}

func TestP19_1_ListsThatDoNotRise(t *testing.T) {
	good := pairs("a=1", "a\x00=2", "a\x00\x00=3", "b=4", "\xff=5", "\xff\x00=6")
	wrong := append(spoilt(good), pairs("a=1", "a=1"), pairs("=", "="), pairs("aa=", "a="), pairs("\xff=", "\x00="), pairs("b=", "\x00b="))
	if len(wrong) < 20 {
		t.Fatal("too few")
	}
	for _, l := range wrong {
		if plainRises(keysOfPairs(l)) {
			t.Fatalf("%s rises", show(l))
		}
		for _, other := range [][]api.Pair{nil, good, good[:1], l, pairs("x=1")} {
			got, err := diff.Lists(l, other)
			wantChanges(t, show(l)+" first", got, err, nil, api.ErrOrder)
			got, err = diff.Lists(other, l)
			wantChanges(t, show(l)+" second", got, err, nil, api.ErrOrder)
		}
	}
}
