package diff_test

import (
	"math/rand"
	"slices"
	"testing"

	"copse/api"
	"copse/diff"
)

func lists(t *testing.T, a, b []api.Pair) []api.Change {
	t.Helper()
	l, err := diff.Lists(a, b)
	must(t, err)
	return l
}

// follow is each sentence of P19.8 of three states.
func follow(t *testing.T, a, b, c []api.Pair) {
	t.Helper()
	there := lists(t, a, b)
	got, err := diff.Patch(a, there)
	wantPairs(t, "Patch(a, Lists(a, b))", got, err, b, nil)
	got, err = diff.Patch(b, diff.Invert(there))
	wantPairs(t, "Patch(b, Invert(Lists(a, b)))", got, err, a, nil)
	l, err := diff.Compose(there, lists(t, b, c))
	wantChanges(t, "Compose(Lists(a, b), Lists(b, c))", l, err, lists(t, a, c), nil)
	l, err = diff.Compose(there, diff.Invert(there))
	wantChanges(t, "Compose(l, Invert(l))", l, err, nil, nil)
	l, err = diff.Lists(a, a)
	wantChanges(t, "Lists(a, a)", l, err, nil, nil)
}

func TestP19_8_AllSmallStates(t *testing.T) {
	states := smallStates([]string{"a", "a\x00", "\xff"}, "", "1")
	for _, a := range states {
		for _, b := range states {
			for _, c := range states {
				follow(t, a.pairs(), b.pairs(), c.pairs())
			}
		}
	}
}

func TestP19_8_ManyStates(t *testing.T) {
	r := rand.New(rand.NewSource(198))
	for range 200 {
		var l [3][]api.Pair
		for i := range l {
			l[i] = randomState(r, manyKeys(), oddValues()).pairs()
		}
		follow(t, l[0], l[1], l[2])
	}
}

// Lists(a, Patch(a, l)) is l without its idle changes.
func TestP19_8_ChangesComeBack(t *testing.T) {
	met := 0
	for _, b := range smallStates([]string{"a", "a\x00", "z"}, "", "1") {
		for _, l := range smallChanges([]string{"a", "a\x00"}, "", "1") {
			unclean := slices.ContainsFunc(l, func(c api.Change) bool { return !c.Had && c.Old != "" || !c.Has && c.New != "" })
			behind, err := diff.Patch(b.pairs(), l)
			if err != nil || unclean {
				continue
			}
			back, err := diff.Lists(b.pairs(), behind)
			wantChanges(t, show(b)+" with "+show(l), back, err, withoutIdle(l), nil)
			met++
		}
	}
	r := rand.New(rand.NewSource(1981))
	for range 300 {
		a, b := randomState(r, manyKeys(), oddValues()), randomState(r, manyKeys(), oddValues())
		l := strewn(r, a, b)
		behind, err := diff.Patch(a.pairs(), l)
		if err != nil {
			continue
		}
		back, err := diff.Lists(a.pairs(), behind)
		wantChanges(t, "many", back, err, withoutIdle(l), nil)
		met++
	}
	if met < 300 {
		t.Errorf("%d alone", met)
	}
}

// Any changes that rise, clean or not, lead back.
func TestP19_8_ThereAndBackIsNone(t *testing.T) {
	for _, l := range smallChanges([]string{"", "a", "b"}, "", "1") {
		got, err := diff.Compose(l, diff.Invert(l))
		wantChanges(t, show(l), got, err, nil, nil)
	}
}
