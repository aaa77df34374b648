package fsck_test

import (
	"testing"

	"copse/api"
)

// wantOrder wants FindOrder of one page of a tree of which all else is right, or nothing.
func wantOrder(t *testing.T, what string, w *wood, right bool, page int) {
	t.Helper()
	d := w.lay(t)
	if right {
		wantFound(t, what, d.Device, true)
	} else {
		wantFound(t, what, d.Device, false, page, api.FindOrder)
	}
}

// below is the greatest key below one of 255 bytes, the last of which is above 0; above is the least key above it.
func below(key string) string { return key[:254] + string([]byte{key[254] - 1}) }

func above(key string) string { return key[:254] + string([]byte{key[254] + 1}) }

// Rule 8, of the bounds that a branch sets its own children: keys just at, below and above each, of the first, a middle and the last child.
func TestP22_1_OrderBelowOneBranch(t *testing.T) {
	for _, i := range []int{1, 4, 8, 10, 13, 17} { // those that have a low bound from their branch
		low := long(letter(i))
		for key, right := range map[string]bool{low: true, below(low): false, above(low): true, low[:254]: false, letter(i): false, letter(i) + "1": true} {
			w := newWood()
			w.leaves[i] = big(key, letter(i)+"2", letter(i)+"5")
			wantOrder(t, "a first key at a low bound", w, right, 2+i)
		}
	}
	for _, i := range []int{0, 3, 7, 9, 12, 16} { // those that have a high bound from their branch
		high := long(letter(i + 1))
		for key, right := range map[string]bool{high: false, below(high): true, above(high): false, high[:254]: true, letter(i) + "\xff": true, letter(i+1) + "1": false} {
			w := newWood()
			w.leaves[i] = big(letter(i)+"1", letter(i)+"2", key)
			wantOrder(t, "a last key at a high bound", w, right, 2+i)
		}
	}
}

// The first child's low bound and the last one's high bound come from farther up; where nothing is farther up, there is none.
func TestP22_1_OrderFromFartherUp(t *testing.T) {
	for key, right := range map[string]bool{"j": true, "j\x00": true, "i\xff": false, "i": false} {
		w := newWood()
		w.leaves[9] = big(key, "j2", "j5")
		wantOrder(t, "the low bound of the root's last child", w, right, 11)
	}
	for key, right := range map[string]bool{"j": false, "i\xff\xff": true, "j\x00": false, "i6": true} {
		w := newWood()
		w.leaves[8] = big("i1", "i2", key)
		wantOrder(t, "the high bound of the root's first child", w, right, 10)
	}
	w := newWood()
	w.leaves[0] = big("\x00", "a", "a1")
	wantOrder(t, "the least key there is", w, true, 0)
	w = newWood()
	w.leaves[17] = big("r1", "r2", "\xff\xff\xff")
	wantOrder(t, "a great key", w, true, 0)
}

// A branch's own keys are held to its bounds, just as a leaf's.
func TestP22_1_OrderOfBranches(t *testing.T) {
	for key, right := range map[string]bool{"j": false, "i\xff": true, "i5": true} {
		w := newWood()
		w.inner[0] = over([]int{2, 3, 4, 5, 6, 7, 8, 9, 24}, long("b"), long("c"), long("d"), long("e"), long("f"), long("g"), long("h"), key)
		w.leaves[7] = big("h1", "h2", "h5")
		d := w.lay(t)
		if right {
			d.leaf(24, 1, big(key, key+"\x00", key+"\x01"))
			wantFound(t, "a last link below the high bound", d.Device, true)
		} else {
			d.leaf(24, 1, big("i1", "i2", "i5"))
			wantFound(t, "a last link at the high bound", d.Device, false, 20, api.FindOrder, 24, api.FindOrder)
		}
	}
	for key, right := range map[string]bool{"j": true, "j\x00": true, "i\xff": false} {
		w := newWood()
		w.inner[1] = over([]int{24, 12, 13, 14, 15, 16, 17, 18, 19}, key, long("l"), long("m"), long("n"), long("o"), long("p"), long("q"), long("r"))
		d := w.lay(t).leaf(24, 1, big("j", "j1", "j2"))
		want := []int{24, api.FindOrder} // at or above the key, for no key has room between it and the low bound
		if !right {
			want = []int{21, api.FindOrder, 24, api.FindOrder}
		}
		wantFound(t, "a first link at the low bound", d.Device, false, want...)
	}
}

// Bounds handed down are the narrowest on the way, also where a branch's own keys lie outside of them.
func TestP22_1_OrderOfTheNarrowest(t *testing.T) {
	w := newWood()
	w.inner[1].Links[0].Key = long("c") // below j
	w.leaves[10] = big("d1", "k2", "k5")
	wantFound(t, "below the greater low bound, above the lesser", w.lay(t).Device, false, 21, api.FindOrder, 11, api.FindOrder, 12, api.FindOrder)
	w.leaves[10] = big("j", "k2", "k5")
	wantFound(t, "at the greater low bound", w.lay(t).Device, false, 21, api.FindOrder, 11, api.FindOrder)
	w = newWood()
	w.inner[0].Links[7].Key = long("z") // above j
	w.leaves[7] = big("h1", "h2", "k")
	wantFound(t, "above the lesser high bound, below the greater", w.lay(t).Device, false, 20, api.FindOrder, 9, api.FindOrder, 10, api.FindOrder)
	w.leaves[7] = big("h1", "h2", "i\xff")
	wantFound(t, "below the lesser high bound", w.lay(t).Device, false, 20, api.FindOrder, 10, api.FindOrder)
}

// Three levels farther down they still hold.
func TestP22_1_OrderFarDown(t *testing.T) {
	// 2 over 3 and 20; 3 over 4 and 21; 4 over 5 and 6; 5 and 6 are leaves: all keys beneath 3 are below t, those beneath 21 at or above m.
	lay := func(a, b, c []api.Pair) *disk {
		d := newDisk(t, 30).meta(2, 1)
		d.branch(2, 1, over([]int{3, 20}, "t")).branch(3, 1, over([]int{4, 21}, "m")).branch(4, 1, over([]int{5, 6}, "f"))
		d.branch(20, 1, over([]int{22, 23}, "w")).branch(22, 1, over([]int{24, 25}, "u")).branch(23, 1, over([]int{26, 27}, "y"))
		d.branch(21, 1, over([]int{7, 8}, "p"))
		d.leaf(5, 1, big("a", "b", "c")).leaf(6, 1, b).leaf(7, 1, a).leaf(8, 1, c)
		return d.leaf(24, 1, big("t", "t1", "t2")).leaf(25, 1, big("u", "u1", "v")).leaf(26, 1, big("w", "w1", "x")).leaf(27, 1, big("y", "y1", "z"))
	}
	fill := []int{3, 4, 21, 20, 22, 23}
	want := func(what string, d *disk, wrong ...int) {
		t.Helper()
		var l []int
		add := func(page int, leaves ...int) {
			l = append(l, page, api.FindFill)
			for _, id := range leaves {
				for _, w := range wrong {
					if w == id {
						l = append(l, id, api.FindOrder)
					}
				}
			}
		}
		add(fill[0])
		add(fill[1], 5, 6)
		add(fill[2], 7, 8)
		add(fill[3])
		add(fill[4], 24, 25)
		add(fill[5], 26, 27)
		wantFound(t, what, d.Device, false, l...)
	}
	a, b, c := big("m", "n", "o"), big("f", "g", "h"), big("p", "q", "s")
	want("all in their place", lay(a, b, c))
	want("below the low bound of the branch over it", lay(big("l", "n", "o"), b, c), 7)
	want("at the high bound of the branch over that", lay(a, big("f", "g", "m"), c), 6)
	want("just below it", lay(a, big("f", "g", "l\xff"), c))
	want("at the root's", lay(a, b, big("p", "q", "t")), 8)
	want("just below it", lay(a, b, big("p", "q", "s\xff")))
	d := lay(a, b, c)
	want("below the root's low bound", d.leaf(24, 1, big("s", "t1", "t2")), 24)
	want("at it", d.leaf(24, 1, big("t", "t1", "t2")))
	want("any key where there is no bound", d.leaf(5, 1, big("\x00", "b", "c")).leaf(27, 1, big("y", "z", "\xff\xff")))
}
