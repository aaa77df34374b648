package fsck_test

import (
	"slices"
	"testing"

	"copse/api"
)

// chain is a way of branches down from page 2, each of which leads to the next page and to another one, with a leaf behind the last. The root's key is z, the next one's y, and so on.
func chain(t *testing.T, branches, other int) *disk {
	t.Helper()
	d := newDisk(t, 40).meta(2, 1)
	for id := 2; id < 2+branches; id++ {
		d.branch(id, 1, over([]int{id + 1, other}, letter(27-id)))
	}
	return d.leaf(2+branches, 1, big("a", "b", "c"))
}

// repeated is a finding, so many times.
func repeated(n, page, what int) []int { return slices.Repeat([]int{page, what}, n) }

// Rule 1: a depth of 8 may be, one of 9 may not; and it is told ahead of all else.
func TestP22_1_Depth(t *testing.T) {
	const none = 1000 // above the pages
	for depth := 2; depth <= 12; depth++ {
		want := each(3, 1+min(depth-1, 8), api.FindFill)
		if depth > 8 {
			want = append(want, 10, api.FindDepth, none, api.FindDepth)
			want = append(want, repeated(7, none, api.FindBounds)...)
		} else {
			want = append(want, repeated(depth-1, none, api.FindBounds)...)
		}
		wantFound(t, "a way of branches", chain(t, depth-1, none).Device, false, want...)
	}
}

// What was beyond rule 1 does not count as visited: it is visited where it is met again farther up, and what is beneath it, too.
func TestP22_1_DepthAgain(t *testing.T) {
	d := chain(t, 8, 1000).branch(2, 1, over([]int{3, 10}, "z")).leaf(10, 1, big("z", "z1", "z2"))
	want := append(each(3, 9, api.FindFill), 10, api.FindDepth, 1000, api.FindDepth)
	want = append(want, repeated(6, 1000, api.FindBounds)...)
	wantFound(t, "a leaf too deep, and at depth 2", d.Device, false, want...)
	d.branch(10, 1, over([]int{11, 12}, "z4")).leaf(11, 1, big("z1", "z2", "z3")).leaf(12, 1, big("z4", "z5", "z6"))
	want = append(want, 10, api.FindFill)
	wantFound(t, "a branch too deep, and at depth 2", d.Device, false, want...)
	d.branch(2, 1, over([]int{3, 10, 13}, "z", "z7")).branch(13, 1, over([]int{10, 14}, "z8"))
	want = append(want, 13, api.FindFill, 10, api.FindTwice, 14, api.FindPage)
	wantFound(t, "and at depth 3 behind that", d.Device, false, want...)
}

// At a depth of 9 a page that was visited is too deep, not there twice.
func TestP22_1_DepthAheadOfTwice(t *testing.T) {
	want := append(each(3, 9, api.FindFill), 10, api.FindDepth, 2, api.FindDepth)
	want = append(want, repeated(7, 2, api.FindTwice)...)
	wantFound(t, "the root at every depth", chain(t, 8, 2).Device, false, want...)
}

// A leaf at depth 8 is looked at as any other one.
func TestP22_1_LeafAtMaxDepth(t *testing.T) {
	d := chain(t, 7, 1000).leaf(9, 2, big("y"))
	want := append(each(3, 8, api.FindFill), 9, api.FindTxid, 9, api.FindFill, 9, api.FindOrder)
	want = append(want, repeated(7, 1000, api.FindBounds)...)
	wantFound(t, "three findings at depth 8", d.Device, false, want...)
}
