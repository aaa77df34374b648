package diff_test

import (
	"math/rand"
	"slices"
	"testing"

	"copse/api"
	"copse/diff"
)

func TestP19_7_Examples(t *testing.T) {
	for _, c := range []struct {
		a, b, want []api.Change
		err        error
	}{
		{changes(has("a", "1")), changes(turned("a", "1", "2")), changes(has("a", "2")), nil},
		{changes(has("a", "1")), changes(had("a", "1")), nil, nil},
		{changes(has("a", "1")), changes(has("b", "2")), changes(has("a", "1"), has("b", "2")), nil},
		{changes(has("a", "1")), changes(had("a", "2")), nil, api.ErrLost},
		{changes(had("a", "1")), changes(had("a", "1")), nil, api.ErrLost},
	} {
		l, err := diff.Compose(c.a, c.b)
		wantChanges(t, show(c.a)+" and "+show(c.b), l, err, c.want, c.err)
	}
}

func TestP19_7_OtherKeysAndTheSame(t *testing.T) {
	for _, c := range []struct{ a, b, want []api.Change }{
		{nil, nil, nil},
		{changes(had("a", "1")), nil, changes(had("a", "1"))},
		{nil, changes(had("a", "1")), changes(had("a", "1"))},
		{changes(has("b", "1")), changes(had("a", "0"), had("c", "")), changes(had("a", "0"), has("b", "1"), had("c", ""))},
		{changes(had("a", "1")), changes(has("a", "1")), nil},
		{changes(had("a", "1")), changes(has("a", "2")), changes(turned("a", "1", "2"))},
		{changes(turned("a", "1", "2")), changes(turned("a", "2", "1")), nil},
		{changes(turned("a", "1", "2")), changes(had("a", "2")), changes(had("a", "1"))},
		{changes(had("a", "")), changes(has("a", "")), nil},
		{changes(has("a", "")), changes(had("a", "")), nil},
		{changes(turned("a", "1", "1"), absent("b")), changes(turned("c", "", ""), absent("d")), nil},
		{changes(turned("a", "1", "1")), changes(turned("a", "1", "2")), changes(turned("a", "1", "2"))},
		{changes(has("a", "2")), changes(turned("a", "2", "2")), changes(has("a", "2"))},
		{changes(absent("a")), changes(has("a", "1")), changes(has("a", "1"))},
		{changes(had("a", "1"), has("c", "3")), changes(has("a", "4"), has("b", "5"), had("c", "3")), changes(turned("a", "1", "4"), has("b", "5"))},
		{changes(has("a", "1"), has("a\x00", "2")), changes(had("a", "1"), has("a\x00\x00", "3"), has("\xff", "4")), changes(has("a\x00", "2"), has("a\x00\x00", "3"), has("\xff", "4"))},
	} {
		l, err := diff.Compose(c.a, c.b)
		wantChanges(t, show(c.a)+" and "+show(c.b), l, err, c.want, nil)
	}
}

func TestP19_7_WrongLists(t *testing.T) {
	good := changes(had("a", "1"), has("b", "2"))
	for _, c := range []struct {
		a, b []api.Change
		err  error
	}{
		{changes(has("a", "1")), changes(has("a", "1")), api.ErrLost},
		{changes(has("a", "1")), changes(has("a", "2")), api.ErrLost},
		{changes(had("a", "1")), changes(turned("a", "1", "2")), api.ErrLost},
		{changes(had("a", "1")), changes(had("a", "")), api.ErrLost},
		{changes(has("a", "")), changes(absent("a")), api.ErrLost},
		{changes(has("a", "1"), has("b", "2")), changes(had("a", "1"), had("b", "1")), api.ErrLost},
		{changes(has("a", "1"), has("b", "2")), changes(had("a", "2"), had("b", "2")), api.ErrLost},
		{changes(had("a", "1")), changes(api.Change{Key: "a", Old: "1", Has: true, New: "2"}), api.ErrLost},
		{changes(api.Change{Key: "a", Had: true, Old: "1", New: "x"}), changes(has("a", "2")), api.ErrLost},
		{changes(has("b", "1"), has("a", "1")), nil, api.ErrOrder},
		{nil, changes(has("a", "1"), had("a", "1")), api.ErrOrder},
		{good, changes(has("c", "1"), has("c", "1")), api.ErrOrder},
		{changes(absent("z"), absent("y")), good, api.ErrOrder},
		{good, changes(had("a", "1"), had("b", "9"), had("b", "9")), api.ErrOrder},
		{changes(has("a", "1"), has("a", "1")), changes(has("a", "7")), api.ErrOrder},
		{changes(has("b", "1"), has("a", "1")), changes(has("b", "1"), has("a", "1")), api.ErrOrder},
	} {
		l, err := diff.Compose(c.a, c.b)
		wantChanges(t, show(c.a)+" and "+show(c.b), l, err, nil, c.err)
	}
}

// All changes of two keys behind all others, clean or not.
func TestP19_7_AllSmallChanges(t *testing.T) {
	lists, seen := smallChanges([]string{"a", "a\x00"}, "", "1"), map[error]int{}
	for _, a := range lists {
		for _, b := range lists {
			want, wantErr := plainCompose(a, b)
			got, err := diff.Compose(a, b)
			if !slices.Equal(got, want) || err != wantErr {
				t.Fatalf("%v and %v: %v, %v, want %v, %v", a, b, got, err, want, wantErr)
			}
			seen[err]++
		}
	}
	if seen[nil] < 1000 || seen[api.ErrLost] < 1000 {
		t.Errorf("%v", seen)
	}
}

func TestP19_7_ManyChanges(t *testing.T) {
	r, seen := rand.New(rand.NewSource(197)), map[error]int{}
	for range 600 {
		a, b, c := randomState(r, manyKeys(), oddValues()), randomState(r, manyKeys(), oddValues()), randomState(r, manyKeys(), oddValues())
		first, second := strewn(r, a, b), strewn(r, b, c)
		want, wantErr := plainCompose(first, second)
		got, err := diff.Compose(first, second)
		wantChanges(t, "many", got, err, want, wantErr)
		if err == nil && slices.ContainsFunc(got, plainIdle) {
			t.Error("an idle change in what is composed")
		}
		seen[err]++
	}
	if seen[nil] < 50 || seen[api.ErrLost] < 50 {
		t.Errorf("%v", seen)
	}
}
