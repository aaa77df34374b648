package diff_test

import (
	"fmt"
	"maps"
	"math/rand"
	"slices"
	"strings"
	"testing"

	"copse/api"
)

// pairs is a list of texts such as "a=1".
func pairs(l ...string) []api.Pair {
	var m []api.Pair
	for _, s := range l {
		key, value, _ := strings.Cut(s, "=")
		m = append(m, api.Pair{Key: key, Value: value})
	}
	return m
}

func changes(l ...api.Change) []api.Change { return l }

// had is a key that is no more.
func had(key, old string) api.Change { return api.Change{Key: key, Had: true, Old: old} }

// has is a key that was not there.
func has(key, now string) api.Change { return api.Change{Key: key, Has: true, New: now} }

// turned is a key that was there and is.
func turned(key, old, now string) api.Change {
	return api.Change{Key: key, Had: true, Old: old, Has: true, New: now}
}

// absent is an idle change of a key that is not there.
func absent(key string) api.Change { return api.Change{Key: key} }

func must(t *testing.T, err error) {
	t.Helper()
	if err != nil {
		t.Fatal(err)
	}
}

// show is a text short enough to be read.
func show(v any) string {
	s := fmt.Sprintf("%+q", v)
	if len(s) > 400 {
		return s[:400] + ".."
	}
	return s
}

// book is a state as a plain map.
type book map[string]string

func bookOf(l []api.Pair) book {
	b := book{}
	for _, p := range l {
		b[p.Key] = p.Value
	}
	return b
}

// pairs is the state as a rising list.
func (b book) pairs() []api.Pair {
	var l []api.Pair
	for _, k := range slices.Sorted(maps.Keys(b)) {
		l = append(l, api.Pair{Key: k, Value: b[k]})
	}
	return l
}

// plainRises holds each key against all that come behind it.
func plainRises(keys []string) bool {
	for i := range keys {
		for _, later := range keys[i+1:] {
			if strings.Compare(keys[i], later) >= 0 {
				return false
			}
		}
	}
	return true
}

func keysOfPairs(l []api.Pair) []string {
	var keys []string
	for _, p := range l {
		keys = append(keys, p.Key)
	}
	return keys
}

func keysOf(l []api.Change) []string {
	var keys []string
	for _, c := range l {
		keys = append(keys, c.Key)
	}
	return keys
}

// union is the keys of two maps, rising.
func union[A, B any](a map[string]A, b map[string]B) []string {
	all := map[string]int{}
	for k := range a {
		all[k]++
	}
	for k := range b {
		all[k]++
	}
	return slices.Sorted(maps.Keys(all))
}

// plainLists is P19.1, said of maps.
func plainLists(a, b book) []api.Change {
	var l []api.Change
	for _, k := range union(a, b) {
		old, had := a[k]
		now, has := b[k]
		if had && has && old == now {
			continue
		}
		l = append(l, api.Change{Key: k, Had: had, Has: has, Old: old, New: now})
	}
	return l
}

// plainFits is what the chapter calls to fit.
func plainFits(b book, c api.Change) bool {
	value, there := b[c.Key]
	if !there {
		return !c.Had && c.Old == ""
	}
	return c.Had && c.Old == value
}

// plainPatch is P19.4, of a state and changes that rise or not.
func plainPatch(a []api.Pair, l []api.Change) ([]api.Pair, error) {
	if !plainRises(keysOfPairs(a)) || !plainRises(keysOf(l)) {
		return nil, api.ErrOrder
	}
	b := bookOf(a)
	for _, c := range l {
		if !plainFits(b, c) {
			return nil, api.ErrLost
		}
	}
	for _, c := range l {
		delete(b, c.Key)
		if c.Has {
			b[c.Key] = c.New
		}
	}
	return b.pairs(), nil
}

func plainIdle(c api.Change) bool { return c.Had == c.Has && c.Old == c.New }

func withoutIdle(l []api.Change) []api.Change {
	var m []api.Change
	for _, c := range l {
		if !plainIdle(c) {
			m = append(m, c)
		}
	}
	return m
}

func plainClean(l []api.Change) bool {
	for _, c := range l {
		if plainIdle(c) || !c.Had && c.Old != "" || !c.Has && c.New != "" {
			return false
		}
	}
	return plainRises(keysOf(l))
}

func byKey(l []api.Change) map[string]api.Change {
	m := map[string]api.Change{}
	for _, c := range l {
		m[c.Key] = c
	}
	return m
}

// plainCompose is P19.7, said of maps.
func plainCompose(a, b []api.Change) ([]api.Change, error) {
	if !plainRises(keysOf(a)) || !plainRises(keysOf(b)) {
		return nil, api.ErrOrder
	}
	first, second := byKey(a), byKey(b)
	var l []api.Change
	for _, k := range union(first, second) {
		x, inA := first[k]
		y, inB := second[k]
		switch {
		case inA && inB:
			if y.Had != x.Has || y.Old != x.New {
				return nil, api.ErrLost
			}
			l = append(l, api.Change{Key: k, Had: x.Had, Old: x.Old, Has: y.Has, New: y.New})
		case inA:
			l = append(l, x)
		default:
			l = append(l, y)
		}
	}
	return withoutIdle(l), nil
}

// smallStates is all states of these keys, each there or not, empty or with one of the values.
func smallStates(keys []string, values ...string) []book {
	all := []book{{}}
	for _, k := range keys {
		for _, b := range slices.Clone(all) {
			for _, v := range values {
				more := maps.Clone(b)
				more[k] = v
				all = append(all, more)
			}
		}
	}
	return all
}

// smallChanges is all lists of changes of these keys, each named or not, of every form that has no values but these, unclean ones too.
func smallChanges(keys []string, values ...string) [][]api.Change {
	all := [][]api.Change{nil}
	for _, k := range keys {
		for _, l := range slices.Clone(all) {
			for form := range 4 {
				for _, old := range values {
					for _, now := range values {
						c := api.Change{Key: k, Had: form&1 != 0, Has: form&2 != 0, Old: old, New: now}
						all = append(all, append(slices.Clone(l), c))
					}
				}
			}
		}
	}
	return all
}

// oddKeys begin one another, have the lowest and the highest bytes in them, are empty, and longer than a store's may be.
func oddKeys() []string {
	return []string{
		"", "\x00", "\x00\x00", "\x00\xff", "a", "a\x00", "a\x00\x00", "a\x00b", "a\x01", "a\xff", "a\xff\xff", "aa", "b", "é", "\xfe", "\xff", "\xff\x00", "\xff\xff",
		strings.Repeat("m", 255), strings.Repeat("m", 256), strings.Repeat("m", 3000), strings.Repeat("\xff", 255),
	}
}

func oddValues() []string {
	return []string{"", "", "1", "2", "\x00", "1\x00", strings.Repeat("v", 700), strings.Repeat("v", 701)}
}

// randomState is some of the keys with some of the values.
func randomState(r *rand.Rand, keys, values []string) book {
	b, share := book{}, r.Intn(5)
	for _, k := range keys {
		if r.Intn(4) < share {
			b[k] = values[r.Intn(len(values))]
		}
	}
	return b
}

// manyKeys is the odd keys and some hundred others.
func manyKeys() []string {
	keys := oddKeys()
	for i := range 300 {
		keys = append(keys, fmt.Sprintf("k%03d", i))
	}
	return keys
}
