package tree_test

import (
	"fmt"
	"math"
	"math/rand"
	"slices"
	"strings"
	"testing"

	"copse/api"
	"copse/branch"
	"copse/device"
	"copse/leaf"
	"copse/sheet"
	"copse/tree"
)

// wantAll asks for the error of every call that reads, and that nothing else is told.
func wantAll(t *testing.T, r *tree.Tree, k string, want error) {
	t.Helper()
	told := map[string]error{}
	zero := map[string]int{}
	v, is, err := r.Get(k)
	told["Get"] = err
	if v != "" || is {
		zero["Get"]++
	}
	told["Put"] = r.Put(k, "1")
	had, err := r.Delete(k)
	told["Delete"] = err
	if had {
		zero["Delete"]++
	}
	p, is, err := r.Below(k)
	told["Below"] = err
	if p != (api.Pair{}) || is {
		zero["Below"]++
	}
	n, err := r.Depth()
	told["Depth"] = err
	if n != 0 {
		zero["Depth"]++
	}
	for call, err := range told {
		if err != want {
			t.Errorf("%s(%.9q): %v, want %v", call, k, err, want)
		}
		if zero[call] > 0 {
			t.Errorf("%s(%.9q) tells something beside %v", call, k, err)
		}
	}
	if r.Changed() != 0 || r.Copy().Changed() != 0 {
		t.Error("a call with an error has changed nodes")
	}
}

func wantNoLists(t *testing.T, r *tree.Tree, want error) {
	t.Helper()
	if l, err := r.Pairs("", "", 9); l != nil || err != want {
		t.Errorf("Pairs: %d, %v, want %v", len(l), err, want)
	}
	if l, err := r.Leaves(); l != nil || err != want {
		t.Errorf("Leaves: %d, %v, want %v", len(l), err, want)
	}
	if l, err := r.Pages(); l != nil || err != want {
		t.Errorf("Pages: %d, %v, want %v", len(l), err, want)
	}
}

func TestP10_8_ADeviceThatIsDead(t *testing.T) {
	for _, root := range forest()[1:] {
		d, r, p := grown(t, root)
		k := bookOf(root)[0].Key
		d.Crash(nil)
		wantAll(t, r, k, api.ErrDead)
		wantAll(t, r, "not there", api.ErrDead)
		if _, _, err := r.Below(""); err != api.ErrDead {
			t.Errorf("Below(\"\"): %v", err)
		}
		wantNoLists(t, r, api.ErrDead)
		d.Revive()
		wantNodes(t, d, r, p)
		wantTold(t, r, p)
		wantPairs(t, r, bookOf(root))
	}
}

// What is wrong with an argument is told without a page being read.
func TestP10_8_ArgumentsFirst(t *testing.T) {
	d, r, _ := grown(t, wide())
	d.Crash(nil)
	long := strings.Repeat("k", 256)
	for _, k := range []string{"", long} {
		if _, _, err := r.Get(k); err != api.ErrArg {
			t.Errorf("Get: %v", err)
		}
		if _, err := r.Delete(k); err != api.ErrArg {
			t.Errorf("Delete: %v", err)
		}
		if err := r.Put(k, ""); err != api.ErrArg {
			t.Errorf("Put: %v", err)
		}
	}
	if err := r.Put("k", strings.Repeat("v", 701)); err != api.ErrArg {
		t.Errorf("Put: %v", err)
	}
	if _, err := r.Pairs("", "", -1); err != api.ErrArg {
		t.Errorf("Pairs: %v", err)
	}
}

// A tree that is in memory wants no device.
func TestP10_8_WithoutPages(t *testing.T) {
	d, r := sixKeys(t)
	d.Crash(nil)
	put(t, r, exampleKey(7))
	mustDelete(t, r, "key01")
	wantState(t, r, 2, 3)
	l, err := r.Pairs("", "", 9)
	if len(l) != 6 || err != nil {
		t.Errorf("%d pairs, %v", len(l), err)
	}
	if sheets, root := planned(t, r, mapOf(t, 9, nil), 1); len(sheets) != 3 || root != 4 {
		t.Errorf("%d sheets, root %d", len(sheets), root)
	}
}

// A leaf that becomes too small wants its neighbour: where that can't be read, the pair is there still.
func TestP10_8_TheNeighbourCanNotBeRead(t *testing.T) {
	for _, k := range []string{"a", "m"} {
		three := []int{520, 520, 520}
		d, r, p := grown(t, branchOf(leafOf("a", 0, three...), leafOf("m", 0, three...)))
		put(t, r, pair(k, 0, 530)) // the way is in memory now
		p.put(k, pair(k, 0, 530).Value)
		d.Crash(nil)
		had, err := r.Delete(k + "b")
		d.Revive()
		switch {
		case err == nil && had:
			p.drop(k + "b")
		case err != api.ErrDead || had:
			t.Errorf("Delete = %v, %v", had, err)
		}
		wantNodes(t, d, r, p)
	}
}

// TestP10_8_DyingAndComingBack: every answer is the one that there is with the power on, or ErrDead, and then nothing has changed.
func TestP10_8_DyingAndComingBack(t *testing.T) {
	for i, f := range diets[1:] {
		r := newRun(f, int64(i+31))
		for range 150 {
			r.put(t, r.anyKey(), r.anyValue())
		}
		r.commit(t)
		deaths := 0
		for range 400 {
			if r.rnd.Intn(4) == 0 {
				r.d.Crash(nil)
			}
			deaths += r.tryStep(t)
			r.d.Revive()
			if r.rnd.Intn(40) == 0 {
				r.hold(t)
				r.commit(t)
			}
		}
		r.hold(t)
		if deaths == 0 {
			t.Errorf("%s: no call has met a dead device", f.name)
		}
	}
}

// tryStep does one call, and answers 1, if it told ErrDead.
func (r *run) tryStep(t *testing.T) int {
	k, v := r.anyKey(), r.anyValue()
	var err error
	switch r.rnd.Intn(4) {
	case 0:
		if err = r.tree.Put(k, v); err == nil {
			r.plain.put(k, v)
			r.book = r.book.with(k, v)
		}
	case 1:
		var had bool
		if had, err = r.tree.Delete(k); had != (err == nil && r.book.has(k)) {
			t.Fatalf("Delete(%q) = %v, %v", bare(k), had, err)
		}
		if err == nil {
			r.plain.drop(k)
			r.book = r.book.without(k)
		}
	case 2:
		var p api.Pair
		var is bool
		p, is, err = r.tree.Below(k)
		if want, has := r.book.below(k); err == nil && (p != want || is != has) || err != nil && (p != api.Pair{} || is) {
			t.Fatalf("Below(%q) = %q, %v, %v", bare(k), bare(p.Key), is, err)
		}
	case 3:
		var l []api.Pair
		l, err = r.tree.Pairs(k, "", 9)
		if err == nil && !slices.Equal(l, r.book.pairs(k, "", 9)) || err != nil && l != nil {
			t.Fatalf("Pairs(%q): %d, %v", bare(k), len(l), err)
		}
	}
	if err != nil && (err != api.ErrDead || !r.d.Dead()) {
		t.Fatalf("%v", err)
	}
	if n := r.tree.Changed(); n != r.plain.changed() {
		t.Fatalf("Changed = %d, want %d", n, r.plain.changed())
	}
	if err != nil {
		return 1
	}
	return 0
}

// image is a device of so many pages on which these sheets lie.
func image(t *testing.T, pages int, sheets ...api.Sheet) *device.Device {
	t.Helper()
	d := device.New(8 * pages)
	write(t, d, sheets)
	return d
}

func leafSheet(t *testing.T, id int, pairs ...api.Pair) api.Sheet {
	t.Helper()
	body, err := leaf.Encode(pairs)
	must(t, err)
	return api.Sheet{Kind: api.KindLeaf, ID: id, Txid: 1, Count: len(pairs), Body: body}
}

// branchSheet is a branch of a first child, and of keys and children in turns.
func branchSheet(t *testing.T, id, first int, links ...api.Link) api.Sheet {
	t.Helper()
	body, err := branch.Encode(api.Branch{First: first, Links: links})
	must(t, err)
	return api.Sheet{Kind: api.KindBranch, ID: id, Txid: 1, Count: 1 + len(links), Body: body}
}

func TestWrong_ARootThatIsNoPage(t *testing.T) {
	d := image(t, 10, leafSheet(t, 2, pair("a", 0, 100)))
	for _, id := range []int{-1, 1, 3, 9, 10, 11, 1 << 20, 1<<20 - 1, 1 << 40, math.MaxInt, math.MinInt} {
		r := tree.Open(d, api.Meta{Pages: 10, Root: id})
		wantAll(t, r, "a", api.ErrCorrupt)
		if _, _, err := r.Below(""); err != api.ErrCorrupt {
			t.Errorf("Below(\"\"): %v", err)
		}
	}
}

func TestWrong_PagesThatAreNoNodes(t *testing.T) {
	good, other := leafSheet(t, 2, pair("a", 0, 100)), branchSheet(t, 2, 3, api.Link{Key: "m", Child: 4})
	change := func(s api.Sheet, do func(s *api.Sheet)) api.Sheet {
		do(&s)
		return s
	}
	for i, s := range []api.Sheet{
		change(good, func(s *api.Sheet) { s.Count = 0 }),
		change(good, func(s *api.Sheet) { s.Count = 2 }),
		change(good, func(s *api.Sheet) { s.Kind = api.KindBranch }),
		change(good, func(s *api.Sheet) { s.Body = strings.Repeat("\xff", bodyLen) }),
		change(good, func(s *api.Sheet) { s.Body = strings.Repeat("\x00", bodyLen) }),
		change(other, func(s *api.Sheet) { s.Count = 1 }),
		change(other, func(s *api.Sheet) { s.Count = 3 }),
		change(other, func(s *api.Sheet) { s.Kind = api.KindLeaf }),
		change(other, func(s *api.Sheet) { s.Body = strings.Repeat("\x01", bodyLen) }),
	} {
		wantAll(t, tree.Open(image(t, 5, s), api.Meta{Root: 2}), "a", api.ErrCorrupt)
		root := branchSheet(t, 3, 4, api.Link{Key: "m", Child: 2})
		r := tree.Open(image(t, 5, s, root, leafSheet(t, 4, pair("a", 0, 100))), api.Meta{Root: 3})
		if v, is, err := r.Get("a"); len(v) != 94 || !is || err != nil {
			t.Errorf("image %d: Get = %d bytes, %v, %v", i, len(v), is, err)
		}
		if _, _, err := r.Get("z"); err != api.ErrCorrupt {
			t.Errorf("image %d: Get: %v, want ErrCorrupt", i, err)
		}
		if _, err := r.Delete("a"); err != api.ErrCorrupt || r.Changed() != 0 { // its neighbour is no node
			t.Errorf("image %d: Delete: %v, want ErrCorrupt", i, err)
		}
	}
	// A page that lies in another's place is none; one whose sum is wrong neither.
	d := image(t, 5, good)
	p, err := d.Read(16, 8)
	must(t, err)
	must(t, d.Write(24, p))
	wantAll(t, tree.Open(d, api.Meta{Root: 3}), "a", api.ErrCorrupt)
	p[50]++
	must(t, d.Write(16, p))
	wantAll(t, tree.Open(d, api.Meta{Root: 2}), "a", api.ErrCorrupt)
}

func TestWrong_PagesThatLeadToThemselves(t *testing.T) {
	leafs := leafSheet(t, 9, pair("z", 0, 100))
	for _, d := range []*device.Device{
		image(t, 10, branchSheet(t, 2, 2, api.Link{Key: "m", Child: 9}), leafs),
		image(t, 10, branchSheet(t, 2, 3, api.Link{Key: "m", Child: 9}), branchSheet(t, 3, 4, api.Link{Key: "m", Child: 9}), branchSheet(t, 4, 2, api.Link{Key: "m", Child: 9}), leafs),
	} {
		r := tree.Open(d, api.Meta{Root: 2})
		wantAll(t, r, "a", api.ErrCorrupt)
		if v, is, err := r.Get("z"); len(v) != 94 || !is || err != nil {
			t.Errorf("Get = %d bytes, %v, %v", len(v), is, err)
		}
		if _, _, err := r.Below("m"); err != nil && err != api.ErrCorrupt {
			t.Errorf("Below: %v", err)
		}
	}
	round := image(t, 10, branchSheet(t, 2, 9, api.Link{Key: "m", Child: 2}), leafs)
	r := tree.Open(round, api.Meta{Root: 2})
	if _, _, err := r.Below(""); err != api.ErrCorrupt {
		t.Errorf("Below of the last pair: %v", err)
	}
	if n, err := r.Depth(); n != 2 || err != nil {
		t.Errorf("Depth = %d, %v", n, err)
	}
}

// chain is branches below one another, each with a leaf beside the next one, and a leaf at their end: so many nodes.
func chain(t *testing.T, nodes int) *tree.Tree {
	t.Helper()
	var sheets []api.Sheet
	side := leafSheet(t, 200, pair("z", 0, 100))
	for i := range nodes - 1 {
		sheets = append(sheets, branchSheet(t, i+2, i+3, api.Link{Key: fmt.Sprintf("m%03d", 999-i), Child: 200}))
	}
	sheets = append(sheets, leafSheet(t, nodes+1, pair("a", 0, 100)), side)
	return tree.Open(image(t, 201, sheets...), api.Meta{Root: 2})
}

func TestWrong_SixtyFourNodesAndOneMore(t *testing.T) {
	r := chain(t, 64)
	if v, is, err := r.Get("a"); len(v) != 94 || !is || err != nil {
		t.Errorf("Get = %d bytes, %v, %v", len(v), is, err)
	}
	if n, err := r.Depth(); n != 64 || err != nil {
		t.Errorf("Depth = %d, %v", n, err)
	}
	if had, err := r.Delete("none"); had || err != nil {
		t.Errorf("Delete = %v, %v", had, err)
	}
	if p, is, err := r.Below("b"); p != pair("a", 0, 100) || !is || err != nil {
		t.Errorf("Below = %q, %v, %v", p.Key, is, err)
	}
	// The leaf is too small, and what stands beside it is a leaf, too; but further up a branch stands beside a leaf.
	if err := r.Put("a", "1"); err != api.ErrCorrupt || r.Changed() != 0 {
		t.Errorf("Put: %v", err)
	}
	wantAll(t, chain(t, 65), "a", api.ErrCorrupt)
}

// bent is a way of 41 branches to a leaf of z, and ahead of that a way of so many nodes more to the last pair below it.
func bent(t *testing.T, more int) *tree.Tree {
	t.Helper()
	sheets := []api.Sheet{leafSheet(t, 200, pair("a", 0, 100)), leafSheet(t, 201, pair("zz", 0, 100))}
	for id := 2; id < 42+more; id++ {
		s := branchSheet(t, id, 200, api.Link{Key: "b", Child: id + 1})
		if id == 42 {
			s = branchSheet(t, id, id+1, api.Link{Key: "z", Child: 201})
		}
		sheets = append(sheets, s)
	}
	sheets = append(sheets, leafSheet(t, 42+more, pair("y", 0, 100)))
	return tree.Open(image(t, 202, sheets...), api.Meta{Root: 2})
}

func TestWrong_SixtyFourNodesInTheLeafAhead(t *testing.T) {
	if p, is, err := bent(t, 23).Below("z"); p != pair("y", 0, 100) || !is || err != nil {
		t.Errorf("Below = %q, %v, %v", p.Key, is, err)
	}
	if p, is, err := bent(t, 24).Below("z"); p != (api.Pair{}) || is || err != api.ErrCorrupt {
		t.Errorf("Below = %q, %v, %v, want ErrCorrupt", p.Key, is, err)
	}
}

// Nothing is promised of lists of such trees; but those that lead round, or to nothing, are found out.
func TestWrong_Lists(t *testing.T) {
	wantNoLists(t, chain(t, 65), api.ErrCorrupt)
	wantNoLists(t, tree.Open(image(t, 10, branchSheet(t, 2, 2, api.Link{Key: "m", Child: 9})), api.Meta{Root: 2}), api.ErrCorrupt)
	one, two := leafSheet(t, 4, pair("a", 0, 100)), leafSheet(t, 5, pair("f", 0, 100))
	d := image(t, 10, branchSheet(t, 2, 3, api.Link{Key: "m", Child: 9}), branchSheet(t, 3, 4, api.Link{Key: "f", Child: 5}), one, two)
	wantNoLists(t, tree.Open(d, api.Meta{Root: 2}), api.ErrCorrupt)
	if l, err := chain(t, 64).Pairs("", "m", 9); !slices.Equal(l, []api.Pair{pair("a", 0, 100)}) || err != nil {
		t.Errorf("Pairs: %d, %v", len(l), err)
	}
}

// shared is a root and, on each level below it, two nodes that are the children of both above them: with each level there are twice as many ways.
func shared(t *testing.T, levels int) *tree.Tree {
	t.Helper()
	sheets := []api.Sheet{branchSheet(t, 2, 4, api.Link{Key: "m", Child: 5})}
	below := 2*levels + 2
	for id := 4; id < below-2; id++ {
		child := id - id%2 + 2
		sheets = append(sheets, branchSheet(t, id, child, api.Link{Key: "m", Child: child + 1}))
	}
	sheets = append(sheets, leafSheet(t, below-2, pair("a", 0, 100)), leafSheet(t, below-1, pair("n", 0, 100)))
	return tree.Open(image(t, below, sheets...), api.Meta{Root: 2})
}

// Pages, Leaves and Pairs end, however many ways there are: for layer 13 hands them trees that may be anybody's, and layer 14 asks for pairs where another store may have written.
func TestWrong_MoreWaysThanAnybodyCanGo(t *testing.T) {
	for _, levels := range []int{3, 4, 8, 64} {
		r := shared(t, levels)
		if n, err := r.Depth(); n != levels || err != nil {
			t.Errorf("Depth = %d, %v, want %d", n, err, levels)
		}
		if l, err := r.Pages(); l != nil || err != api.ErrCorrupt {
			t.Errorf("%d levels: Pages = %v, %v, want ErrCorrupt", levels, l, err)
		}
		if l, err := r.Leaves(); l != nil || err != api.ErrCorrupt {
			t.Errorf("%d levels: Leaves = %d, %v, want ErrCorrupt", levels, len(l), err)
		}
		for _, from := range []string{"", "b"} {
			if l, err := r.Pairs(from, "", 1<<62); l != nil || err != api.ErrCorrupt {
				t.Errorf("%d levels: Pairs from %q = %d, %v, want ErrCorrupt", levels, from, len(l), err)
			}
		}
	}
	if l, err := shared(t, 2).Pages(); !slices.Equal(l, []int{2, 4, 5}) || err != nil {
		t.Errorf("Pages = %v, %v", l, err)
	}
}

// Nor is anything of a Plan of them; but what can't be written is not planned.
func TestWrong_APlanOfPairsOutOfOrder(t *testing.T) {
	d := image(t, 10, branchSheet(t, 4, 2, api.Link{Key: "m", Child: 3}), leafSheet(t, 2, pair("x", 0, 100)), leafSheet(t, 3, pair("a", 0, 100), pair("n", 0, 100)))
	r := tree.Open(d, api.Meta{Root: 4})
	mustDelete(t, r, "n")
	m := mapOf(t, 10, []int{2, 3, 4})
	if l, root, err := r.Plan(m, 1); l != nil || root != 0 || err != api.ErrCorrupt || m.Free() != 5 || r.Changed() != 1 {
		t.Errorf("Plan = %d sheets, %d, %v", len(l), root, err)
	}
}

func TestWrong_ChildrenOfTwoKinds(t *testing.T) {
	a := leafOf("a", 0, 520, 520, 520)
	m := branchOf(small("m")...)
	root := branchOf(a, m)
	for _, k := range []string{"ab", "m04b"} {
		_, r, _ := grown(t, root)
		if had, err := r.Delete(k); had || err != api.ErrCorrupt || r.Changed() != 0 {
			t.Errorf("Delete(%q) = %v, %v, want ErrCorrupt", k, had, err)
		}
		if v, is, err := r.Get(k); v == "" || !is || err != nil {
			t.Errorf("Get(%q) = %d bytes, %v, %v", k, len(v), is, err)
		}
	}
}

// garbled is a device on which any pages lead to any others.
func garbled(t *testing.T, rnd *rand.Rand) (*device.Device, int) {
	pages := 6 + rnd.Intn(20)
	d := device.New(8*pages + rnd.Intn(8))
	forward := rnd.Intn(3) > 0 // else they lead round
	for id := 2; id < pages; id++ {
		var s api.Sheet
		switch rnd.Intn(10) {
		case 0:
			continue
		case 1:
			s = api.Sheet{Kind: api.KindLeaf, ID: id, Count: rnd.Intn(3), Body: strings.Repeat(string(rune(rnd.Intn(2))), bodyLen)}
		case 2, 3, 4, 5:
			s = leafSheet(t, id, anyPairs(rnd)...)
		default:
			s = anyBranch(t, rnd, id, pages, forward)
		}
		must(t, sheet.Store(d, s))
	}
	must(t, d.Sync())
	return d, 1 + rnd.Intn(min(pages, 6))
}

func anyName(rnd *rand.Rand) string { return fmt.Sprintf("%c%c", 'a'+rnd.Intn(6), 'a'+rnd.Intn(6)) }

func anyPairs(rnd *rand.Rand) []api.Pair {
	var b book
	for n := 1 + rnd.Intn(12); n > 0; n-- {
		p := pair(anyName(rnd), rnd.Intn(256), 300+rnd.Intn(400))
		if l := b.with(p.Key, p.Value); leaf.Size(l) <= bodyLen {
			b = l
		}
	}
	return b
}

func anyBranch(t *testing.T, rnd *rand.Rand, id, pages int, forward bool) api.Sheet {
	least := 2
	if forward {
		least = id + 1
	}
	children := rnd.Perm(pages + 4 - least) // some lead behind the last page
	var names []string
	for range 1 + rnd.Intn(14) {
		names = append(names, key(anyName(rnd), rnd.Intn(256)))
	}
	slices.Sort(names)
	names = slices.Compact(names)
	var links []api.Link
	for i, name := range names {
		if i+1 < len(children) {
			links = append(links, api.Link{Key: name, Child: least + children[i+1]})
		}
	}
	return branchSheet(t, id, least+children[0], links...)
}

// TestWrong_AnyPages: whatever lies there, the calls end, and tell no other error than they may.
func TestWrong_AnyPages(t *testing.T) {
	rnd := rand.New(rand.NewSource(99))
	told := map[error]int{}
	for range 600 {
		d, root := garbled(t, rnd)
		r := tree.Open(d, api.Meta{Root: root})
		_, written, synced := d.Counts()
		for range 40 {
			if rnd.Intn(10) == 0 {
				d.Crash(nil)
			}
			err := anyCall(t, rnd, r)
			told[err]++
			if err != nil && err != api.ErrCorrupt && (err != api.ErrDead || !d.Dead()) {
				t.Fatalf("told %v", err)
			}
			d.Revive()
			if rnd.Intn(10) == 0 {
				r = r.Copy()
			}
		}
		if _, a, b := d.Counts(); a != written || b != synced {
			t.Fatal("the device was written to")
		}
	}
	if told[nil] == 0 || told[api.ErrCorrupt] == 0 || told[api.ErrDead] == 0 {
		t.Errorf("what was told is %v", told)
	}
}

// anyCall is the error of a call; with one the tree must be as it was.
func anyCall(t *testing.T, rnd *rand.Rand, r *tree.Tree) error {
	k := key(anyName(rnd), rnd.Intn(256))
	before := r.Changed()
	var err error
	switch rnd.Intn(6) {
	case 0:
		_, _, err = r.Get(k)
	case 1, 2:
		err = r.Put(k, strings.Repeat("v", rnd.Intn(701)))
	case 3:
		_, err = r.Delete(k)
	case 4:
		_, _, err = r.Below([]string{"", k}[rnd.Intn(2)])
	case 5:
		_, err = r.Depth()
	}
	if err != nil && r.Changed() != before {
		t.Fatalf("%v, and %d nodes are changed, of %d", err, r.Changed(), before)
	}
	return err
}
