package pager_test

import (
	"fmt"
	"math"
	"math/rand"
	"slices"
	"strings"
	"testing"

	"copse/api"
	"copse/branch"
	"copse/device"
	"copse/leaf"
	"copse/pager"
	"copse/sheet"
	"copse/tree"
)

// store lays a node into a page.
func store(t *testing.T, d *device.Device, id, kind, count int, body string) {
	t.Helper()
	must(t, sheet.Store(d, api.Sheet{Kind: kind, ID: id, Txid: 1, Count: count, Body: body}))
}

func storeLeaf(t *testing.T, d *device.Device, id int, pairs ...api.Pair) {
	t.Helper()
	body, err := leaf.Encode(pairs)
	must(t, err)
	store(t, d, id, api.KindLeaf, len(pairs), body)
}

func storeBranch(t *testing.T, d *device.Device, id, first int, links ...api.Link) {
	t.Helper()
	body, err := branch.Encode(api.Branch{First: first, Links: links})
	must(t, err)
	store(t, d, id, api.KindBranch, 1+len(links), body)
}

// endless lays, from a page on, a tree whose branches share their children: each of so many levels doubles its ways.
func endless(t *testing.T, d *device.Device, from, levels int) *tree.Tree {
	t.Helper()
	for i := range levels {
		low := from + 2*i
		for id := low; id < low+2; id++ {
			if i < levels-1 {
				storeBranch(t, d, id, low+2, api.Link{Key: "m", Child: low + 3})
			} else {
				storeLeaf(t, d, id, api.Pair{Key: string(rune('a' + 20*(id-low)))})
			}
		}
	}
	return tree.Open(d, api.Meta{Root: from})
}

// strangers are trees that are not the pager's, each made anew.
func strangers(t *testing.T, s shop, others []shop) map[string]func(p *pager.Pager) *tree.Tree {
	t.Helper()
	l := map[string]func(p *pager.Pager) *tree.Tree{
		"none":     func(*pager.Pager) *tree.Tree { return nil },
		"the zero": func(*pager.Pager) *tree.Tree { return &tree.Tree{} },
		"the zero, changed": func(*pager.Pager) *tree.Tree {
			r := &tree.Tree{}
			must(t, r.Put("a", "1"))
			return r
		},
		"one that stayed behind": func(p *pager.Pager) *tree.Tree {
			r := p.Tree()
			must(t, r.Put("a", "behind"))
			wantCommit(t, p, nil, puts(0, 1, 30)...)
			wantCommit(t, p, nil, puts(1, 1, 30)...)
			return r
		},
		"committed before": func(p *pager.Pager) *tree.Tree {
			r := p.Tree()
			must(t, r.Put("a", "before"))
			must(t, p.Commit(r))
			return r
		},
		"an earlier one": func(p *pager.Pager) *tree.Tree {
			r := p.Tree()
			wantCommit(t, p, nil, change{key: "a", value: "later"})
			return r
		},
	}
	for _, id := range []int{math.MinInt, -1, 1, 2, 3, s.meta.Pages - 1, s.meta.Pages, 1 << 20, math.MaxInt} {
		l[fmt.Sprint("of the root ", id)] = func(*pager.Pager) *tree.Tree { return tree.Open(s.d, api.Meta{Root: id}) }
	}
	for _, other := range others {
		l["of "+other.name] = func(*pager.Pager) *tree.Tree { return other.tree() }
		l["of "+other.name+", changed"] = func(*pager.Pager) *tree.Tree {
			r := other.tree()
			book{}.apply(t, r, works()[1].changes)
			return r
		}
	}
	return l
}

func TestWrong_TreesOfOthers(t *testing.T) {
	refused, taken := 0, 0
	all := shops(t)
	for _, s := range all {
		for name := range strangers(t, s, all) {
			for _, dead := range []bool{false, true} {
				mine := s.clone(t)
				p := boot(t, mine.d)
				r := strangers(t, mine, all)[name](p)
				was, since := clone(t, mine.d), counts(mine.d)
				m, free := p.Meta(), p.Free()
				if dead {
					mine.d.Crash(nil)
				}
				err := p.Commit(r)
				if err == nil {
					taken++
					continue
				}
				refused++
				what := fmt.Sprintf("%s: a tree %s, dead %v: %v", s.name, name, dead, err)
				wantDone(t, what, mine.d, since, nil)
				wantSame(t, what, mine.d, was)
				if p.Meta() != m || p.Free() != free {
					t.Errorf("%s: the pager says %v, %d free, want %v, %d", what, p.Meta(), p.Free(), m, free)
				}
			}
		}
	}
	if refused == 0 || taken == 0 {
		t.Errorf("%d were refused, %d taken", refused, taken)
	}
}

func TestWrong_NoTree(t *testing.T) {
	_, p := formatted(t, 80)
	if err := p.Commit(nil); err != api.ErrArg {
		t.Errorf("Commit(nil): %v", err)
	}
}

// A tree with pages that do not count would spoil the store: it is refused ahead of any write.
func TestWrong_PagesThatDoNotCount(t *testing.T) {
	other := emptyShop(t, "another's", 8*200)
	other.commit(t, puts(0, 60, 700))
	for _, sectors := range []int{80, 8 * 200} {
		s := emptyShop(t, fmt.Sprint(sectors, " sectors"), sectors)
		s.commit(t, []change{{key: "a", value: "1"}})
		p := boot(t, s.d)
		was := clone(t, s.d)
		for _, changes := range [][]change{nil, puts(0, 1, 30), puts(59, 1, 30)} {
			r := other.tree()
			b := other.book.apply(t, r, changes)
			n := r.Changed()
			if err := p.Commit(r); err != api.ErrArg {
				t.Errorf("%s: Commit of %d changed nodes: %v", s.name, n, err)
			}
			wantAsItWas(t, s.name, r, n, b)
			wantSame(t, s.name, s.d, was)
			wantPager(t, s.name, p, s.d)
		}
		wantCommit(t, p, nil, change{key: "b", value: "2"})
		wantHeld(t, s.name, s.d, p.Meta(), book{"a": "1", "b": "2"})
	}
}

// Where branches share their children there are more ways than anybody can go: the call ends all the same.
func TestWrong_MoreWaysThanAnybodyCanGo(t *testing.T) {
	for _, levels := range []int{3, 8, 40, 64} {
		for _, changed := range []bool{false, true} {
			d, p := formatted(t, 8*200)
			was := clone(t, d)
			r := endless(t, device.New(8*200), 4, levels)
			if changed {
				_ = r.Put("a", strings.Repeat("v", 700))
			}
			if err := p.Commit(r); err == nil {
				t.Errorf("%d levels, changed %v: committed", levels, changed)
			}
			wantSame(t, "shared children", d, was)
			r = endless(t, d, 4, levels)
			_ = p.Commit(r)
		}
	}
}

// TestWrong_AnyPages: trees over pages that lead anywhere, changed at will, end in an error or in none.
func TestWrong_AnyPages(t *testing.T) {
	rnd := rand.New(rand.NewSource(139))
	told := map[error]int{}
	for range 500 {
		d, p := formatted(t, 8*30)
		for id := 2; id < 30; id++ {
			anyPage(t, rnd, d, id)
		}
		must(t, d.Sync())
		for range 3 {
			r := tree.Open(d, api.Meta{Root: 2 + rnd.Intn(6)})
			for range rnd.Intn(12) {
				k := string(rune('a' + rnd.Intn(20)))
				if rnd.Intn(3) == 0 {
					_, _ = r.Delete(k)
				} else {
					_ = r.Put(k, strings.Repeat("v", rnd.Intn(701)))
				}
			}
			if rnd.Intn(8) == 0 {
				d.Arm(rnd.Intn(4), nil)
			}
			told[p.Commit(r)]++
			d.Revive()
		}
	}
	for err := range told {
		if !slices.Contains([]error{nil, api.ErrArg, api.ErrCorrupt, api.ErrDead, api.ErrFull, api.ErrTwice}, err) {
			t.Errorf("told %v", err)
		}
	}
	if told[nil] == 0 || told[api.ErrCorrupt] == 0 {
		t.Errorf("what was told is %v", told)
	}
}

func anyPage(t *testing.T, rnd *rand.Rand, d *device.Device, id int) {
	t.Helper()
	switch rnd.Intn(4) {
	case 0:
	case 1, 2:
		var pairs []api.Pair
		for k := 'a' + rune(rnd.Intn(4)); k < 'v' && len(pairs) < 5; k += 1 + rune(rnd.Intn(5)) {
			pairs = append(pairs, api.Pair{Key: string(k), Value: strings.Repeat("v", rnd.Intn(701))})
		}
		storeLeaf(t, d, id, pairs...)
	case 3:
		children := rnd.Perm(30)[:5]
		var links []api.Link
		for i, child := range children[1:] {
			links = append(links, api.Link{Key: string(rune('c' + 4*i)), Child: 2 + child})
		}
		storeBranch(t, d, id, 2+children[0], links...)
	}
}

// A pager whose device has died is good for nothing; but its calls end.
func TestWrong_APagerBehindAFailure(t *testing.T) {
	for _, s := range shops(t) {
		p := boot(t, s.d)
		s.d.Arm(0, nil)
		wantCommit(t, p, api.ErrDead, change{key: "a", value: "9"})
		m, free := p.Meta(), p.Free()
		if m != s.meta {
			t.Errorf("%s: %v, want %v", s.name, m, s.meta)
		}
		r := p.Tree()
		if err := p.Commit(r); err != api.ErrDead {
			t.Errorf("%s: Commit: %v", s.name, err)
		}
		if p.Meta() != m || p.Free() != free {
			t.Errorf("%s: the pager is another", s.name)
		}
	}
}
