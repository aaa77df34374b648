package diff_test

import (
	"slices"
	"testing"
	"unsafe"

	"copse/api"
	"copse/diff"
)

// memory is texts that can be written over.
type memory struct{ all [][]byte }

func (m *memory) text(s string) string {
	if s == "" {
		return ""
	}
	p := []byte(s)
	m.all = append(m.all, p)
	return unsafe.String(&p[0], len(p))
}

func (m *memory) scrawl() {
	for _, p := range m.all {
		for i := range p {
			p[i] = '#'
		}
	}
}

// pairs is a list in memory of its own, with something behind its end.
func (m *memory) pairs(l []api.Pair) []api.Pair {
	var wide []api.Pair
	for _, p := range append(slices.Clone(l), pairs("behind=1", "b=2", "")...) {
		wide = append(wide, api.Pair{Key: m.text(p.Key), Value: m.text(p.Value)})
	}
	return wide[:len(l)]
}

func (m *memory) changes(l []api.Change) []api.Change {
	var wide []api.Change
	for _, c := range append(slices.Clone(l), has("behind", "1"), had("a", "9"), absent("")) {
		c.Key, c.Old, c.New = m.text(c.Key), m.text(c.Old), m.text(c.New)
		wide = append(wide, c)
	}
	return wide[:len(l)]
}

// whole is a list with all that lies in its room, in memory of its own.
func whole[T any](l []T) []T { return slices.Clone(l[:cap(l)]) }

// fill writes over a list and the room behind it.
func fill[T any](l []T, with T) {
	wide := l[:cap(l)]
	for i := range wide {
		wide[i] = with
	}
}

func someStates() [][]api.Pair {
	return [][]api.Pair{nil, pairs("a=1"), pairs("a=1", "b=2", "c=", "d=4"), pairs("a=2", "c=3", "d=4", "e="), pairs("b=1", "a=1")}
}

func someChanges() [][]api.Change {
	return [][]api.Change{nil, changes(has("a", "1")), changes(turned("a", "1", "2"), had("b", "2"), has("e", "")), changes(had("a", "2"), absent("b"), turned("e", "", "5")), changes(turned("d", "4", "4")), changes(has("b", "1"), has("a", "1"))}
}

// heldAgainst makes a call of lists with something behind them, writes over all that was handed in, and holds what was answered against the same call of plain lists.
func heldAgainst[A, B, C comparable](t *testing.T, what string, a []A, b []B, loosen func(*memory) ([]A, []B), call func([]A, []B) ([]C, error)) {
	t.Helper()
	want, wantErr := call(slices.Clone(a), slices.Clone(b))
	var m memory
	looseA, looseB := loosen(&m)
	beforeA, beforeB := whole(looseA), whole(looseB)
	got, err := call(looseA, looseB)
	again, errAgain := call(looseA, looseB)
	if !slices.Equal(whole(looseA), beforeA) || !slices.Equal(whole(looseB), beforeB) {
		t.Errorf("%s: what was handed in has changed", what)
	}
	_ = append(got, *new(C))
	fill(got[len(got):], *new(C))
	if !slices.Equal(again, want) || !slices.Equal(got, want) || err != wantErr || errAgain != wantErr {
		t.Errorf("%s: %v, %v, again %v, %v, want %v, %v", what, got, err, again, errAgain, want, wantErr)
	}
	var zeroA A
	var zeroB B
	fill(looseA, zeroA)
	fill(looseB, zeroB)
	m.scrawl()
	if !slices.Equal(got, want) || !slices.Equal(again, want) {
		t.Errorf("%s: the answer hangs on what was handed in: %v, want %v", what, got, want)
	}
	fill(got, *new(C))
	if !slices.Equal(again, want) {
		t.Errorf("%s: two answers share memory", what)
	}
	later, err := call(slices.Clone(a), slices.Clone(b))
	if !slices.Equal(later, want) || err != wantErr {
		t.Errorf("%s: asked later: %v, %v", what, later, err)
	}
}

func TestP19_9_Lists(t *testing.T) {
	for _, a := range someStates() {
		for _, b := range someStates() {
			heldAgainst(t, "Lists", a, b, func(m *memory) ([]api.Pair, []api.Pair) { return m.pairs(a), m.pairs(b) }, diff.Lists)
		}
	}
}

func TestP19_9_Patch(t *testing.T) {
	for _, a := range someStates() {
		for _, l := range someChanges() {
			heldAgainst(t, "Patch", a, l, func(m *memory) ([]api.Pair, []api.Change) { return m.pairs(a), m.changes(l) }, diff.Patch)
		}
	}
}

func TestP19_9_Compose(t *testing.T) {
	for _, a := range someChanges() {
		for _, b := range someChanges() {
			heldAgainst(t, "Compose", a, b, func(m *memory) ([]api.Change, []api.Change) { return m.changes(a), m.changes(b) }, diff.Compose)
		}
	}
}

func TestP19_9_Invert(t *testing.T) {
	invert := func(l []api.Change, _ []api.Pair) ([]api.Change, error) { return diff.Invert(l), nil }
	for _, l := range someChanges() {
		heldAgainst(t, "Invert", l, nil, func(m *memory) ([]api.Change, []api.Pair) { return m.changes(l), nil }, invert)
	}
}

// One list handed in twice is none the worse for it.
func TestP19_9_TheSameListTwice(t *testing.T) {
	for _, a := range someStates()[:4] {
		l, err := diff.Lists(a, a)
		wantChanges(t, "Lists", l, err, nil, nil)
	}
	for _, l := range someChanges() {
		before := slices.Clone(l)
		want, wantErr := plainCompose(before, before)
		got, err := diff.Compose(l, l)
		wantChanges(t, "Compose", got, err, want, wantErr)
		if !slices.Equal(l, before) {
			t.Error("the list has changed")
		}
	}
}

func TestP19_9_ApplyKeepsNothing(t *testing.T) {
	for _, c := range []struct {
		l   []api.Change
		err error
	}{
		{changes(turned("a", "1", "other"), had("b", "2"), has("k", "long enough to be seen")), nil},
		{changes(had("a", "1"), had("b", "9")), api.ErrLost},
		{changes(had("b", "2"), had("a", "1")), api.ErrOrder},
		{changes(has("", "1")), api.ErrArg},
	} {
		s := working(t, "a=1", "b=2", "c=3")
		want, _ := plainPatch(held(t, s), c.l)
		if c.err != nil {
			want = held(t, s)
		}
		var m memory
		l := m.changes(c.l)
		before := whole(l)
		if err := diff.Apply(s, l); err != c.err {
			t.Errorf("Apply(%v): %v", c.l, err)
		}
		if !slices.Equal(whole(l), before) {
			t.Errorf("Apply(%v) has changed its changes, or what lies behind them", c.l)
		}
		fill(l, api.Change{Key: "scrawl"})
		m.scrawl()
		wantHeld(t, "at hand", s, want)
		must(t, s.Commit())
		wantHeld(t, "committed", s, want)
	}
}

func TestP19_9_TreesAnswerNewMemory(t *testing.T) {
	w, b := newWood(t), numbered(100, 200)
	base := w.store(w.grown(b))
	now := base.Copy()
	must(t, now.Put("k0050", "x"))
	must(t, now.Put("m", "y"))
	want, err := diff.Trees(base, now)
	must(t, err)
	want = slices.Clone(want)
	first, err := diff.Trees(base, now)
	must(t, err)
	second, err := diff.Trees(base, now)
	must(t, err)
	_ = append(first, api.Change{Key: "scrawl"})
	fill(first, api.Change{Key: "scrawl"})
	third, err := diff.Trees(base, now)
	must(t, err)
	if len(want) != 2 || !slices.Equal(second, want) || !slices.Equal(third, want) {
		t.Errorf("%v, %v, want %v", second, third, want)
	}
}
