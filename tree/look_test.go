package tree_test

import (
	"fmt"
	"math"
	"slices"
	"strings"
	"testing"

	"copse/api"
	"copse/tree"
)

// wide is a tree of three levels.
func wide() *plain {
	var kids []*plain
	for i := range 9 {
		kids = append(kids, branchOf(kidsOf(fmt.Sprintf("%c", 'b'+i), times(8, 255-i)...)...))
	}
	return branchOf(kids...)
}

// loose is a tree whose links have keys that stand in no leaf, right ahead of the first one of theirs.
func loose(p *plain) *plain {
	p.each(func(p *plain, _ string, _ int) {
		for i, k := range p.keys {
			p.keys[i] = k[:len(k)-1]
		}
	})
	return p
}

// forest is trees of each shape: empty, a root that is a leaf, two levels, three levels.
func forest() []*plain {
	return []*plain{
		nil,
		leafOf("m", 255, 400),
		leafOf("m", 0, 400, 300, 200),
		branchOf(leafOf("d", 0, 600, 600, 600), leafOf("m", 3, 600, 600, 600), leafOf("t", 255, 600, 600, 600)),
		wide(),
		loose(wide()),
	}
}

func bookOf(root *plain) book {
	var b book
	root.each(func(p *plain, _ string, _ int) { b = append(b, p.pairs...) })
	return b
}

// asked are keys to ask a book for: each of its own, what stands right ahead of it and right behind it, beginnings of it, and texts that can be no keys.
func asked(b book) []string {
	l := []string{"", "\x00", "\xff", "M", "zzz", strings.Repeat("m", 256), strings.Repeat("m", 5000)}
	for _, p := range b {
		last := len(p.Key) - 1
		l = append(l, p.Key, p.Key+"\x00", p.Key[:last]+string(p.Key[last]-1)+"\xff", p.Key[:last], p.Key[:1])
	}
	return l
}

func TestP10_1_OpenReadsNothing(t *testing.T) {
	d, _, p := grown(t, branchOf(kidsOf("m", 9, 9, 9)...))
	read, written, synced := d.Counts()
	for _, m := range []api.Meta{{Root: p.root.page}, {Pages: -5, Root: p.root.page, Txid: math.MaxUint64}, {Pages: math.MaxInt, Root: 7}, {Root: math.MinInt}} {
		if r := tree.Open(d, m); r == nil || r.Changed() != 0 {
			t.Errorf("Open(%v) is no tree without changes", m)
		}
	}
	if a, b, c := d.Counts(); a != read || b != written || c != synced {
		t.Errorf("Open has read %d sectors, written %d, synced %d times", a-read, b-written, c-synced)
	}
}

func TestP10_1_TheRestOfTheMetaIsNotLookedAt(t *testing.T) {
	d, _, p := grown(t, branchOf(kidsOf("m", 9, 9, 9)...))
	for _, m := range []api.Meta{{}, {Pages: 1 << 40, Txid: math.MaxUint64}, {Pages: -1}} {
		m.Root = p.root.page
		r := tree.Open(d, m)
		wantTold(t, r, p)
		wantPairs(t, r, bookOf(p.root))
		m.Root = 0
		r = tree.Open(d, m)
		wantTold(t, r, &plainTree{})
		wantPairs(t, r, nil)
	}
}

func TestP10_1_OfADeviceThatIsDead(t *testing.T) {
	d, _, p := grown(t, leafOf("m", 0, 400))
	d.Crash(nil)
	r, empty := tree.Open(d, api.Meta{Root: p.root.page}), tree.Open(d, api.Meta{})
	wantTold(t, empty, &plainTree{})
	d.Revive()
	wantTold(t, r, p)
}

func TestP10_2_Get(t *testing.T) {
	for _, root := range forest() {
		_, r, _ := grown(t, root)
		b := bookOf(root)
		for _, k := range asked(b) {
			got, is, err := r.Get(k)
			if k == "" || len(k) > 255 {
				if got != "" || is || err != api.ErrArg {
					t.Errorf("Get of %d bytes = %q, %v, %v, want ErrArg", len(k), got, is, err)
				}
				continue
			}
			if want, has := b.get(k); got != want || is != has || err != nil {
				t.Fatalf("Get(%q) = %d bytes, %v, %v, want %d, %v", bare(k), len(got), is, err, len(want), has)
			}
		}
	}
}

func TestP10_2_AnEmptyValueIsThere(t *testing.T) {
	_, r, _ := grown(t, leafWith(api.Pair{Key: "a"}, api.Pair{Key: "b", Value: "\x00"}))
	if v, is, err := r.Get("a"); v != "" || !is || err != nil {
		t.Errorf("Get = %q, %v, %v, want an empty value", v, is, err)
	}
}

func TestP10_3_PairsOfALimitBelowZero(t *testing.T) {
	for _, root := range forest() {
		_, r, _ := grown(t, root)
		for _, limit := range []int{-1, -2, math.MinInt} {
			if l, err := r.Pairs("", "", limit); l != nil || err != api.ErrArg {
				t.Errorf("Pairs of %d = %d, %v, want ErrArg", limit, len(l), err)
			}
			if l, err := r.Pairs("z", "a", limit); l != nil || err != api.ErrArg {
				t.Errorf("Pairs of %d = %d, %v, want ErrArg", limit, len(l), err)
			}
		}
	}
}

func TestP10_3_PairsOfEachLimit(t *testing.T) {
	for _, root := range forest() {
		_, r, _ := grown(t, root)
		b := bookOf(root)
		for limit := range len(b) + 3 {
			if l, err := r.Pairs("", "", limit); !slices.Equal(l, b.pairs("", "", limit)) || err != nil {
				t.Fatalf("Pairs of %d: %d, %v", limit, len(l), err)
			}
		}
		for _, limit := range []int{1 << 30, math.MaxInt} {
			if l, err := r.Pairs("", "", limit); !slices.Equal(l, b) || err != nil {
				t.Fatalf("Pairs of %d: %d, %v", limit, len(l), err)
			}
		}
	}
}

func TestP10_3_PairsFromAndTo(t *testing.T) {
	for _, root := range forest() {
		_, r, _ := grown(t, root)
		b := bookOf(root)
		bounds := asked(b)
		if len(bounds) > 60 {
			bounds = append(bounds[:7:7], bounds[len(bounds)/3:len(bounds)/3+18]...)
		}
		for _, from := range bounds {
			for _, to := range bounds {
				for _, limit := range []int{2, 1 << 20} {
					l, err := r.Pairs(from, to, limit)
					if want := b.pairs(from, to, limit); !slices.Equal(l, want) || err != nil {
						t.Fatalf("Pairs(%.9q, %.9q, %d): %d, %v, want %d", from, to, limit, len(l), err, len(want))
					}
				}
			}
		}
	}
}

func TestP10_3_Below(t *testing.T) {
	for _, root := range forest() {
		_, r, _ := grown(t, root)
		b := bookOf(root)
		for _, k := range asked(b) {
			p, is, err := r.Below(k)
			if want, has := b.below(k); p != want || is != has || err != nil {
				t.Fatalf("Below(%.9q) = %.9q, %v, %v, want %.9q, %v", k, p.Key, is, err, want.Key, has)
			}
		}
	}
}

// The pair below the first key of a leaf stands in the leaf ahead of it, to which another child of its branch leads, or of one further up.
func TestP10_3_BelowInTheLeafAhead(t *testing.T) {
	for _, root := range []*plain{wide(), loose(wide())} {
		_, r, p := grown(t, root)
		b := bookOf(root)
		for _, span := range p.leaves()[1:] {
			for _, k := range []string{span.From, span.From + "\x00"} {
				got, is, err := r.Below(k)
				if want, _ := b.below(k); got != want || !is || err != nil {
					t.Fatalf("Below(%q) = %q, %v, %v, want %q", bare(k), bare(got.Key), is, err, bare(want.Key))
				}
			}
		}
	}
}

func TestP10_4_WhatIsTold(t *testing.T) {
	for depth, root := range forest() {
		_, r, p := grown(t, root)
		wantTold(t, r, p)
		if n, err := r.Depth(); n != []int{0, 1, 1, 2, 3, 3}[depth] || err != nil {
			t.Errorf("Depth = %d, %v", n, err)
		}
	}
}

func TestP10_4_TheKeyAheadOfALeaf(t *testing.T) {
	root := branchOf(branchOf(small("a")...), branchOf(small("m")...))
	root.keys[0] = "h"
	_, r, _ := grown(t, root)
	l, err := r.Leaves()
	if err != nil || len(l) != 16 {
		t.Fatalf("%d leaves, %v", len(l), err)
	}
	var from []string
	for i, span := range l {
		from = append(from, bare(span.From))
		if want := i + 2 + i/8; span.Page != want {
			t.Errorf("leaf %d has the page %d, want %d", i, span.Page, want)
		}
	}
	if got, want := strings.Join(from, " "), " a01 a02 a03 a04 a05 a06 a07 h m01 m02 m03 m04 m05 m06 m07"; got != want {
		t.Errorf("the keys ahead of the leaves are %q, want %q", got, want)
	}
}

func TestP10_4_TheNodesThatAreChanged(t *testing.T) {
	_, r, p := grown(t, wide())
	k := p.leaves()[20].From
	put(t, r, api.Pair{Key: k, Value: strings.Repeat("v", 700)})
	p.put(k, strings.Repeat("v", 700))
	wantTold(t, r, p)
	if n := r.Changed(); n != 3 {
		t.Errorf("Changed = %d, want a leaf, a branch and the root", n)
	}
	if l, err := r.Leaves(); err != nil || l[20] != (api.Span{From: k}) {
		t.Errorf("the changed leaf is %v, %v", l[20], err)
	}
}

// Leaves and Pages read the branches, and one leaf at most, to know how deep they lie; Pairs reads no leaf that is out of its bounds: a follower leans on it.
func TestReadsNoLeafForNothing(t *testing.T) {
	d, r, p := grown(t, wide())
	reads := func(do func()) int {
		before, _, _ := d.Counts()
		do()
		after, _, _ := d.Counts()
		return (after - before) / 8
	}
	branches := len(p.pages()) - len(p.leaves())
	most := branches + 3
	if n := reads(func() { r.Leaves() }); n > most {
		t.Errorf("Leaves reads %d pages, there are %d branches", n, branches)
	}
	if n := reads(func() { r.Pages() }); n > most {
		t.Errorf("Pages reads %d pages, there are %d branches", n, branches)
	}
	if n := reads(func() { r.Pairs("", "", 3) }); n > 3 {
		t.Errorf("Pairs of the first leaf's pairs reads %d pages", n)
	}
	l := p.leaves()
	for i, span := range l {
		to := ""
		if i+1 < len(l) {
			to = l[i+1].From
		}
		if n := reads(func() { r.Pairs(span.From, to, 1000) }); n > 3 {
			t.Errorf("Pairs of one leaf reads %d pages", n)
		}
	}
}
