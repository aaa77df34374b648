package dump

import (
	"iter"

	"copse/api"
)

// recipe is how things, pairs or nodes, are made the nodes of a row over them.
type recipe[T any] struct {
	size  func(thing T, isFirst bool) int // the bytes that it takes in its node's body
	least int                             // the bytes that a node must have that is not the root
	left  func(run []T) int               // how many of a run go to the left, if it is cut in two
	node  func(run []T) node              // what becomes of a run
}

// row hands out the nodes over a row of things, from the left to the right.
func row[T any](things []T, r recipe[T]) iter.Seq[node] {
	return func(yield func(node) bool) {
		for rest := things; len(rest) > 0; {
			n := r.first(rest)
			if !yield(r.node(rest[:n])) {
				return
			}
			rest = rest[n:]
		}
	}
}

// first is how many of the things are the run from the first one on. Where just two runs are left, and the last one would have too little, both are cut anew.
func (r recipe[T]) first(things []T) int {
	n := r.within(things, api.BodyBytes)
	others := things[n:]
	if len(others) > 0 && r.within(others, r.least-1) == len(others) {
		return r.left(things)
	}
	return n
}

// within is how many of the things, from the first one on, take no more than so many bytes together.
func (r recipe[T]) within(things []T, bytes int) int {
	size := 0
	for i, thing := range things {
		size += r.size(thing, i == 0)
		if size > bytes {
			return i
		}
	}
	return len(things)
}
