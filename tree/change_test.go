package tree_test

import (
	"fmt"
	"slices"
	"strings"
	"testing"

	"copse/api"
	"copse/device"
	"copse/tree"
)

// leafWith is a leaf of these pairs.
func leafWith(pairs ...api.Pair) *plain { return &plain{pairs: pairs} }

// wantTree holds a tree against nodes that are drawn by hand: those that came from grown have their pages, all others are changed.
func wantTree(t *testing.T, d *device.Device, r *tree.Tree, want *plain) {
	t.Helper()
	p := &plainTree{root: want}
	wantNodes(t, d, r, p)
	wantTold(t, r, p)
}

func put(t *testing.T, r *tree.Tree, p api.Pair) {
	t.Helper()
	if err := r.Put(p.Key, p.Value); err != nil {
		t.Fatalf("Put(%.20q): %v", p.Key, err)
	}
}

func TestP10_5_WhatMayBePut(t *testing.T) {
	for _, root := range []*plain{nil, leafOf("m", 0, 600), branchOf(kidsOf("m", times(4, 9)...)...)} {
		d, r, _ := grown(t, root)
		before := seen(t, d, r)
		for _, c := range []struct {
			key, value int
			want       error
		}{
			{0, 0, api.ErrArg}, {0, 1, api.ErrArg}, {0, 700, api.ErrArg}, {0, 701, api.ErrArg},
			{1, 701, api.ErrArg}, {255, 701, api.ErrArg}, {256, 0, api.ErrArg}, {256, 701, api.ErrArg}, {1 << 20, 1 << 20, api.ErrArg},
			{1, 0, nil}, {1, 700, nil}, {255, 0, nil}, {255, 700, nil},
		} {
			k, v := strings.Repeat("k", c.key), strings.Repeat("v", c.value)
			err := r.Put(k, v)
			if err != c.want {
				t.Errorf("Put of %d and %d bytes: %v, want %v", c.key, c.value, err, c.want)
			}
			if err != nil {
				if !same(seen(t, d, r), before) {
					t.Fatalf("a refused Put of %d and %d bytes has changed the tree", c.key, c.value)
				}
				continue
			}
			if got, is, err := r.Get(k); got != v || !is || err != nil {
				t.Errorf("Get behind Put of %d and %d bytes: %d bytes, %v, %v", c.key, c.value, len(got), is, err)
			}
		}
	}
}

func TestP10_5_InThePlaceOfItsKeysPair(t *testing.T) {
	d, r, _ := grown(t, branchOf(leafOf("a", 0, 600, 600, 600), leafOf("m", 0, 600, 600, 600, 600)))
	put(t, r, api.Pair{Key: "mb", Value: "other"})
	put(t, r, api.Pair{Key: "mb", Value: strings.Repeat("v", 700)})
	wantDrawn(t, d, r, "*<(a ab ac) m *(m mb mc md)>")
	if v, is, err := r.Get("mb"); len(v) != 700 || !is || err != nil {
		t.Errorf("Get = %d bytes, %v, %v", len(v), is, err)
	}
}

func TestP10_5_TheVeryPairIsAChange(t *testing.T) {
	root := branchOf(leafOf("a", 0, 600, 600, 600), leafOf("m", 0, 600, 600, 600))
	d, r, _ := grown(t, root)
	put(t, r, root.kids[0].pairs[1])
	wantTree(t, d, r, &plain{keys: root.keys, kids: []*plain{leafOf("a", 0, 600, 600, 600), root.kids[1]}})
	one := leafOf("a", 0, 600)
	d, r, _ = grown(t, one)
	put(t, r, one.pairs[0])
	wantTree(t, d, r, leafOf("a", 0, 600))
}

func TestP10_6_WhatMayBeDeleted(t *testing.T) {
	for _, root := range []*plain{nil, leafOf("m", 0, 600), branchOf(kidsOf("m", times(4, 9)...)...)} {
		d, r, p := grown(t, root)
		for _, n := range []int{0, 256, 1000, 1 << 20} {
			if had, err := r.Delete(strings.Repeat("m", n)); had || err != api.ErrArg {
				t.Errorf("Delete of %d bytes = %v, %v, want ErrArg", n, had, err)
			}
		}
		for _, k := range []string{"a", "mm", "z", strings.Repeat("k", 255), "m\x00", "\x00", "\xff"} {
			if had, err := r.Delete(k); had || err != nil {
				t.Errorf("Delete(%.9q) = %v, %v, want false", k, had, err)
			}
		}
		wantTree(t, d, r, p.root)
	}
}

func TestP10_6_OfTheLongestKeyAndTheShortest(t *testing.T) {
	long := strings.Repeat("k", 255)
	d, r, _ := grown(t, leafWith(api.Pair{Key: "k", Value: "1"}, api.Pair{Key: long, Value: "2"}, api.Pair{Key: "l"}))
	mustDelete(t, r, long)
	wantDrawn(t, d, r, "*(k l)")
	mustDelete(t, r, "k")
	wantDrawn(t, d, r, "*(l)")
	if had, err := r.Delete("k"); had || err != nil {
		t.Errorf("Delete of what is gone = %v, %v", had, err)
	}
}

func TestP10_7_TheFirstPair(t *testing.T) {
	d, r, _ := grown(t, nil)
	put(t, r, api.Pair{Key: "a", Value: "1"})
	wantTree(t, d, r, leafWith(api.Pair{Key: "a", Value: "1"}))
}

func TestP10_7_AnEmptyRoot(t *testing.T) {
	d, r, _ := grown(t, leafOf("a", 0, 700, 700))
	mustDelete(t, r, "a")
	wantDrawn(t, d, r, "*(ab)")
	mustDelete(t, r, "ab")
	wantTree(t, d, r, nil)
	put(t, r, api.Pair{Key: "c"})
	wantDrawn(t, d, r, "*(c)")
}

func TestP10_7_ALeafIsCut(t *testing.T) {
	for _, c := range []struct{ name, want string }{
		{"A", "*<*(A a ab) ac *(ac ad ae) m (m mb mc md me) t (t tb tc td te)>"},
		{"az", "*<*(a ab ac) ad *(ad ae az) m (m mb mc md me) t (t tb tc td te)>"},
		{"mcc", "*<(a ab ac ad ae) m *(m mb mc) mcc *(mcc md me) t (t tb tc td te)>"},
		{"tz", "*<(a ab ac ad ae) m (m mb mc md me) t *(t tb tc) td *(td te tz)>"},
	} {
		five := []int{700, 700, 700, 700, 700}
		d, r, _ := grown(t, branchOf(leafOf("a", 0, five...), leafOf("m", 0, five...), leafOf("t", 0, five...)))
		put(t, r, pair(c.name, 0, 700))
		wantDrawn(t, d, r, c.want)
	}
}

func TestP10_7_ARootThatIsALeafIsCut(t *testing.T) {
	d, r, _ := grown(t, leafOf("a", 0, 700, 700, 700, 700, 700))
	put(t, r, pair("b", 0, 572))
	wantDrawn(t, d, r, "*(a ab ac ad ae b)")
	put(t, r, pair("b", 0, 573))
	wantDrawn(t, d, r, "*<*(a ab ac) ad *(ad ae b)>")
}

// longLeaf is a leaf of five pairs, all of whose keys have that length: one pair more of 700 bytes, and it is cut in halves of three.
func longLeaf(name string, length int) *plain {
	var pairs []api.Pair
	for _, letter := range []string{"", "b", "c", "d", "e"} {
		pairs = append(pairs, pair(name+letter, length, 700))
	}
	return leafWith(pairs...)
}

// halves are what becomes of a longLeaf when a pair with such a key is put behind its last one.
func halves(p *plain, last api.Pair) (*plain, *plain) {
	return leafWith(p.pairs[:3]...), leafWith(p.pairs[3], p.pairs[4], last)
}

func TestP10_7_ABranchIsCut(t *testing.T) {
	for _, at := range []int{0, 3, 7, 8, 15} {
		kids := kidsOf("m", times(16, 255)...)
		kids[at] = longLeaf(fmt.Sprintf("m%02d", at), 255)
		ahead, behind := branchOf(kidsOf("a", times(8, 255)...)...), branchOf(kidsOf("t", times(8, 255)...)...)
		d, r, _ := grown(t, branchOf(ahead, branchOf(kids...), behind))
		last := pair(fmt.Sprintf("m%02dz", at), 255, 700)
		put(t, r, last)
		left, right := halves(kids[at], last)
		all := slices.Concat(kids[:at], []*plain{left, right}, kids[at+1:])
		wantTree(t, d, r, branchOf(ahead, branchOf(all[:8]...), branchOf(all[8:]...), behind))
	}
}

func TestP10_7_ARootThatIsABranchIsCut(t *testing.T) {
	kids := kidsOf("m", times(16, 255)...)
	kids[5] = longLeaf("m05", 255)
	d, r, _ := grown(t, branchOf(kids...))
	last := pair("m05z", 255, 700)
	put(t, r, last)
	left, right := halves(kids[5], last)
	all := slices.Concat(kids[:5], []*plain{left, right}, kids[6:])
	wantTree(t, d, r, branchOf(branchOf(all[:8]...), branchOf(all[8:]...)))
}

func TestP10_7_CutUpToTheRoot(t *testing.T) {
	var kids []*plain
	for i := range 16 {
		kids = append(kids, branchOf(kidsOf(fmt.Sprintf("m%02d-", i), times(8, 255)...)...))
	}
	full := kidsOf("m09-", times(16, 255)...)
	full[15] = longLeaf("m09-15", 255)
	kids[9] = branchOf(full...)
	d, r, _ := grown(t, branchOf(kids...))
	last := pair("m09-15z", 255, 700)
	put(t, r, last)
	left, right := halves(full[15], last)
	below := append(slices.Clone(full[:15]), left, right)
	all := slices.Concat(kids[:9], []*plain{branchOf(below[:8]...), branchOf(below[8:]...)}, kids[10:])
	wantTree(t, d, r, branchOf(branchOf(all[:8]...), branchOf(all[8:]...)))
}

func TestP10_7_ALeafIsJoined(t *testing.T) {
	three := []int{520, 520, 520}
	for _, c := range []struct{ key, want string }{
		{"a", "*<*(ab ac m mb mc) t (t tb tc)>"},
		{"ac", "*<*(a ab m mb mc) t (t tb tc)>"},
		{"m", "*<*(a ab ac mb mc) t (t tb tc)>"},
		{"mb", "*<*(a ab ac m mc) t (t tb tc)>"},
		{"tc", "*<(a ab ac) m *(m mb mc t tb)>"},
	} {
		d, r, _ := grown(t, branchOf(leafOf("a", 0, three...), leafOf("m", 0, three...), leafOf("t", 0, three...)))
		mustDelete(t, r, c.key)
		wantDrawn(t, d, r, c.want)
	}
}

func TestP10_7_ALeafIsJoinedAndCutAnew(t *testing.T) {
	five, three := []int{700, 700, 700, 700, 700}, []int{520, 520, 520}
	d, r, _ := grown(t, branchOf(leafOf("a", 0, five...), leafOf("m", 0, three...), leafOf("t", 0, three...)))
	mustDelete(t, r, "mb")
	wantDrawn(t, d, r, "*<*(a ab ac) ad *(ad ae m mc) t (t tb tc)>")
	d, r, _ = grown(t, branchOf(leafOf("a", 0, three...), leafOf("m", 0, five...), leafOf("t", 0, three...)))
	mustDelete(t, r, "ab")
	wantDrawn(t, d, r, "*<*(a ac m mb) mc *(mc md me) t (t tb tc)>")
}

// small is a branch whose links take 1834 bytes: one less, and it is too small.
func small(name string) []*plain { return kidsOf(name, times(8, 255)...) }

// lessAt is kids of which two, the first of the two being that one, have become one leaf, without the pair that was deleted.
func lessAt(kids []*plain, i int, gone string) []*plain {
	pairs := book(slices.Concat(kids[i].pairs, kids[i+1].pairs)).without(gone)
	return slices.Concat(kids[:i], []*plain{leafWith(pairs...)}, kids[i+2:])
}

func TestP10_7_ABranchIsJoined(t *testing.T) {
	a, m, z := small("a"), small("m"), small("t")
	ahead, behind := branchOf(a...), branchOf(z...)
	d, r, _ := grown(t, branchOf(ahead, branchOf(m...), behind))
	mustDelete(t, r, "m04b")
	wantTree(t, d, r, branchOf(branchOf(slices.Concat(a, lessAt(m, 3, "m04b"))...), behind))
	d, r, _ = grown(t, branchOf(ahead, branchOf(m...), behind))
	mustDelete(t, r, "a00b")
	wantTree(t, d, r, branchOf(branchOf(slices.Concat(lessAt(a, 0, "a00b"), m)...), behind))
	d, r, _ = grown(t, branchOf(ahead, branchOf(m...), behind))
	mustDelete(t, r, "t07c")
	wantTree(t, d, r, branchOf(ahead, branchOf(slices.Concat(m, lessAt(z, 6, "t07c"))...)))
}

func TestP10_7_ABranchIsJoinedAndCutAnew(t *testing.T) {
	full, m, z := kidsOf("a", times(16, 255)...), small("m"), branchOf(small("t")...)
	d, r, _ := grown(t, branchOf(branchOf(full...), branchOf(m...), z))
	mustDelete(t, r, "m04b")
	all := slices.Concat(full, lessAt(m, 3, "m04b"))
	wantTree(t, d, r, branchOf(branchOf(all[:11]...), branchOf(all[11:]...), z))

	a, full := small("a"), kidsOf("m", times(16, 255)...)
	d, r, _ = grown(t, branchOf(branchOf(a...), branchOf(full...), z))
	mustDelete(t, r, "a04b")
	all = slices.Concat(lessAt(a, 3, "a04b"), full)
	wantTree(t, d, r, branchOf(branchOf(all[:11]...), branchOf(all[11:]...), z))
}

func TestP10_7_ABranchWithoutLinks(t *testing.T) {
	d, r, _ := grown(t, branchOf(leafOf("a", 0, 520, 520, 520), leafOf("m", 0, 520, 520, 520)))
	mustDelete(t, r, "ab")
	wantDrawn(t, d, r, "*(a ac m mb mc)")
	a, m := small("a"), small("m")
	d, r, _ = grown(t, branchOf(branchOf(a...), branchOf(m...)))
	mustDelete(t, r, "m04b")
	wantTree(t, d, r, branchOf(slices.Concat(a, lessAt(m, 3, "m04b"))...))
}

// threshold is kids whose links have the size 4072, with their branch: the first link is a short one, and when the second kid loses a pair, the two are cut anew with a long key between.
func threshold() []*plain {
	kids := slices.Concat([]*plain{longLeaf("m00", 255)}, kidsOf("n", append(append([]int{4}, times(15, 255)...), 118)...))
	return kids
}

// cutAnew is the two leaves that become of the first two when n00b is deleted.
func cutAnew(kids []*plain) []*plain {
	p := kids[0].pairs
	return []*plain{leafWith(p[:3]...), leafWith(p[3], p[4], kids[1].pairs[0], kids[1].pairs[2])}
}

func TestP10_7_AParentTooBigByALongerKey(t *testing.T) {
	kids := threshold()
	if size := branchOf(kids...).size(); size != bodyLen {
		t.Fatalf("the branch has %d bytes", size)
	}
	d, r, _ := grown(t, branchOf(kids...))
	mustDelete(t, r, "n00b")
	all := slices.Concat(cutAnew(kids), kids[2:])
	wantTree(t, d, r, branchOf(branchOf(all[:9]...), branchOf(all[9:]...)))

	ahead, behind := branchOf(small("a")...), branchOf(small("t")...)
	d, r, _ = grown(t, branchOf(ahead, branchOf(kids...), behind))
	mustDelete(t, r, "n00b")
	wantTree(t, d, r, branchOf(ahead, branchOf(all[:9]...), branchOf(all[9:]...), behind))
}

func TestP10_7_AParentTooSmallByAShorterKey(t *testing.T) {
	kids := slices.Concat([]*plain{longLeaf("m00", 9)}, kidsOf("n", times(7, 255)...))
	ahead := small("a")
	d, r, _ := grown(t, branchOf(branchOf(ahead...), branchOf(kids...)))
	mustDelete(t, r, "n00b")
	all := slices.Concat(ahead, cutAnew(kids), kids[2:])
	wantTree(t, d, r, branchOf(all...))
}

func TestP10_7_EdgesOfALeafsSize(t *testing.T) {
	d, r, _ := grown(t, branchOf(leafOf("a", 0, 700, 700, 700, 700, 700), leafOf("m", 0, 600, 600, 600)))
	put(t, r, pair("az", 0, 572))
	wantDrawn(t, d, r, "*<*(a ab ac ad ae az) m (m mb mc)>") // 4072
	put(t, r, pair("az", 0, 573))
	wantDrawn(t, d, r, "*<*(a ab ac) ad *(ad ae az) m (m mb mc)>")

	d, r, _ = grown(t, branchOf(leafOf("a", 0, 600, 600, 600), leafOf("m", 0, 600, 600, 600)))
	put(t, r, pair("mb", 0, 356))
	wantDrawn(t, d, r, "*<(a ab ac) m *(m mb mc)>") // 1556
	put(t, r, pair("mb", 0, 355))
	wantDrawn(t, d, r, "*(a ab ac m mb mc)")

	for _, c := range []struct {
		size int
		want string
	}{
		{517, "*(a ab ac ad ae m mb)"}, // 4072 together
		{518, "*<*(a ab ac) ad *(ad ae m mb)>"},
	} {
		d, r, _ = grown(t, branchOf(leafOf("a", 0, 600, 600, 600, 600, 637), leafOf("m", 0, 518, c.size, 530)))
		mustDelete(t, r, "mc")
		wantDrawn(t, d, r, c.want)
	}
}

// rekeyed is kids of which the first two are cut anew when n00b is deleted: the link between them has a key of that length then, and had one of another; the other links have those.
func rekeyed(from, to int, others ...int) []*plain {
	return slices.Concat([]*plain{longLeaf("m00", to)}, kidsOf("n", append([]int{from}, others...)...))
}

func TestP10_7_EdgesOfABranchThatGrows(t *testing.T) {
	for _, c := range []struct {
		last  int
		isCut bool
	}{{129, false}, {130, true}} { // 4072, and one more
		kids := rekeyed(4, 255, append(times(14, 255), c.last)...)
		ahead, behind := branchOf(small("a")...), branchOf(small("t")...)
		d, r, _ := grown(t, branchOf(ahead, branchOf(kids...), behind))
		mustDelete(t, r, "n00b")
		all := slices.Concat(cutAnew(kids), kids[2:])
		if c.isCut {
			wantTree(t, d, r, branchOf(ahead, branchOf(all[:8]...), branchOf(all[8:]...), behind))
		} else {
			wantTree(t, d, r, branchOf(ahead, branchOf(all...), behind))
		}
	}
}

func TestP10_7_EdgesOfABranchThatShrinks(t *testing.T) {
	for _, c := range []struct {
		last     int
		isJoined bool
	}{{176, false}, {175, true}} { // 1777, and one less
		kids := rekeyed(255, 9, append(times(6, 255), c.last)...)
		a, b := branchOf(small("a")...), branchOf(small("t")...)
		d, r, _ := grown(t, branchOf(a, branchOf(kids...), b))
		mustDelete(t, r, "n00b")
		all := slices.Concat(cutAnew(kids), kids[2:])
		if c.isJoined {
			wantTree(t, d, r, branchOf(branchOf(slices.Concat(a.kids, all)...), b))
		} else {
			wantTree(t, d, r, branchOf(a, branchOf(all...), b))
		}
	}
}

func TestP10_7_EdgesOfTwoBranchesTogether(t *testing.T) {
	for _, c := range []struct {
		last  int
		isCut bool
	}{{129, false}, {130, true}} { // 4072, and one more
		a, m, z := kidsOf("a", append(append([]int{9}, times(8, 255)...), c.last)...), small("m"), branchOf(small("t")...)
		d, r, _ := grown(t, branchOf(branchOf(a...), branchOf(m...), z))
		mustDelete(t, r, "m04b")
		all := slices.Concat(a, lessAt(m, 3, "m04b"))
		if c.isCut {
			wantTree(t, d, r, branchOf(branchOf(all[:8]...), branchOf(all[8:]...), z))
		} else {
			wantTree(t, d, r, branchOf(branchOf(all...), z))
		}
	}
}

// A root may be as small as it likes: it is never joined.
func TestP10_7_TheRootMayBeSmall(t *testing.T) {
	d, r, _ := grown(t, leafOf("a", 0, 600, 600, 600))
	mustDelete(t, r, "ab")
	mustDelete(t, r, "ac")
	wantDrawn(t, d, r, "*(a)")
	d, r, _ = grown(t, branchOf(leafOf("a", 0, 600, 600, 600), leafOf("m", 0, 600, 600, 600)))
	put(t, r, pair("a", 0, 599))
	wantDrawn(t, d, r, "*<*(a ab ac) m (m mb mc)>")
}

// The first key of a leaf may go: the link to it keeps its key.
func TestP10_7_LinksKeepTheirKeys(t *testing.T) {
	four := []int{600, 600, 600, 600}
	d, r, _ := grown(t, branchOf(leafOf("a", 0, four...), leafOf("m", 0, four...)))
	mustDelete(t, r, "m")
	put(t, r, pair("lz", 0, 300))
	wantDrawn(t, d, r, "*<*(a ab ac ad lz) m *(mb mc md)>")
	put(t, r, pair("m", 0, 300))
	put(t, r, pair("l", 0, 300))
	wantDrawn(t, d, r, "*<*(a ab ac ad l lz) m *(m mb mc md)>")
}

// Nodes beside the way stay on the device: also the other neighbour of one that is too small.
func TestP10_7_WhatIsNotNamedStays(t *testing.T) {
	three, four := []int{520, 520, 520}, []int{500, 500, 500, 500}
	d, r, _ := grown(t, branchOf(leafOf("a", 0, four...), leafOf("g", 0, four...), leafOf("m", 0, three...), leafOf("t", 0, four...)))
	mustDelete(t, r, "gb")
	wantDrawn(t, d, r, "*<*(a ab ac ad g gc gd) m (m mb mc) t (t tb tc td)>")
}
