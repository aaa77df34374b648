package diff

import (
	"iter"

	"copse/api"
)

// keyed is a list of things that have a key each.
type keyed[T any] struct {
	list []T
	key  func(*T) string
}

func ofPairs(l []api.Pair) keyed[api.Pair] {
	return keyed[api.Pair]{list: l, key: func(p *api.Pair) string { return p.Key }}
}

func ofChanges(l []api.Change) keyed[api.Change] {
	return keyed[api.Change]{list: l, key: func(c *api.Change) string { return c.Key }}
}

func (k keyed[T]) keyAt(i int) string { return k.key(&k.list[i]) }

// rises tells if each key is above the one ahead of it.
func (k keyed[T]) rises() bool {
	for i := 1; i < len(k.list); i++ {
		if k.keyAt(i-1) >= k.keyAt(i) {
			return false
		}
	}
	return true
}

// takeIf takes the first thing off the list, if it is the turn of this list; nil, if not.
func (k *keyed[T]) takeIf(turn bool) *T {
	if !turn {
		return nil
	}
	first := &k.list[0]
	k.list = k.list[1:]
	return first
}

// isTurn tells if the list has a first key, and the other none below it.
func isTurn[T, U any](k keyed[T], other keyed[U]) bool {
	if len(k.list) == 0 || len(other.list) == 0 {
		return len(k.list) > 0
	}
	return k.keyAt(0) <= other.keyAt(0)
}

// sideBySide goes through two rising lists key by key, and hands out what the one and what the other has behind the key: nil, where a list does not have it. What it hands out lies in the lists, and is only to be read.
func sideBySide[A, B any](a keyed[A], b keyed[B]) iter.Seq2[*A, *B] {
	return func(yield func(*A, *B) bool) {
		restA, restB := a, b
		for len(restA.list)+len(restB.list) > 0 {
			turnA, turnB := isTurn(restA, restB), isTurn(restB, restA)
			if !yield(restA.takeIf(turnA), restB.takeIf(turnB)) {
				return
			}
		}
	}
}
