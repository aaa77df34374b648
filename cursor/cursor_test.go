package cursor_test

import (
	"fmt"
	"math/rand"
	"testing"

	"copse/api"
	"copse/cursor"
	"copse/device"
	"copse/tree"
)

// bdf is the tree of the chapter's examples.
func bdf(t *testing.T) *wood {
	w := &wood{name: "b d f", d: device.New(8 * woodPages), pairs: []api.Pair{{Key: "b", Value: "1"}, {Key: "d", Value: "2"}, {Key: "f", Value: "3"}}, depth: 1}
	w.grow(t, "opened")
	return w
}

// told is what a move answers and where the cursor is then, as the chapter's table writes it.
func told(c *cursor.Cursor, m move) string {
	is, err := m.do(c)
	p, has := c.Pair()
	return fmt.Sprint(is, " ", err, " ", p, " ", has)
}

const (
	atB  = "true <nil> {b 1} true"
	atD  = "true <nil> {d 2} true"
	atF  = "true <nil> {f 3} true"
	none = "false <nil> { } false"
)

func TestExamples(t *testing.T) {
	for i, steps := range [][]struct {
		m    move
		want string
	}{
		{{next, atB}, {next, atD}, {next, atF}, {next, none}, {prev, atF}, {prev, atD}},
		{{seek("c"), atD}, {seek("d"), atD}, {seek("d\x00"), atF}, {seek("g"), none}},
		{{back("d"), atB}, {back("z"), atF}, {back("b"), none}, {back(""), none}},
	} {
		c := cursor.New(bdf(t).tree)
		if p, is := c.Pair(); p != (api.Pair{}) || is {
			t.Errorf("Pair at first = %v, %v", p, is)
		}
		for j, s := range steps {
			if got := told(c, s.m); got != s.want {
				t.Errorf("row %d, step %d: %s: %s, want %s", i, j, s.m.name, got, s.want)
			}
		}
	}
	w := bdf(t)
	c := cursor.New(w.tree)
	told(c, first)
	w.put(t, api.Pair{Key: "c", Value: "9"})
	if got := told(c, next); got != atD {
		t.Errorf("Next behind the tree's Put: %s", got)
	}
	w.d.Crash(nil)
	if got := told(c, next); got != fmt.Sprint("false ", api.ErrDead, " {d 2} true") && got != atF {
		t.Errorf("Next of a dead device: %s", got)
	}
	c = cursor.New(tree.Open(w.d, api.Meta{}))
	for _, m := range []move{first, last, seek(""), next, prev} {
		if got := told(c, m); got != none {
			t.Errorf("%s of an empty tree: %s", m.name, got)
		}
	}
}

func TestP12_1_AtNoPlaceAtFirst(t *testing.T) {
	for _, w := range woods(t) {
		read, written, synced := w.d.Counts()
		c := cursor.New(w.tree)
		wantAt(t, w.name, c, newList(w.pairs))
		if a, b, s := w.d.Counts(); a != read || b != written || s != synced {
			t.Errorf("%s: New and Pair have used the device", w.name)
		}
	}
}

// goOver goes over all pairs, to and fro.
func goOver(t *testing.T, what string, c *cursor.Cursor, l *list) {
	t.Helper()
	for range len(l.pairs) + 1 {
		wantMove(t, what, c, l, next)
	}
	for range len(l.pairs) + 1 {
		wantMove(t, what, c, l, prev)
	}
}

func TestP12_1_TheTreeGoesOn(t *testing.T) {
	for _, w := range woods(t) {
		c, l := cursor.New(w.tree), newList(w.pairs)
		midst, m := cursor.New(w.tree), newList(w.pairs)
		wantMove(t, w.name, midst, m, seek("k"))
		for i, p := range w.pairs {
			if i%3 == 0 {
				w.drop(t, p.Key)
			} else {
				w.put(t, api.Pair{Key: p.Key, Value: "other"})
			}
			w.put(t, api.Pair{Key: long(fmt.Sprintf("l%d", i)), Value: "new"})
		}
		w.put(t, api.Pair{Key: "new"})
		wantAt(t, w.name+", behind the tree's Puts", midst, m)
		goOver(t, w.name+", behind the tree's Puts", c, l)
		w.store(t)
		wantAt(t, w.name+", behind the tree's Plan", midst, m)
		wantMove(t, w.name+", behind the tree's Plan", midst, m, next)
		goOver(t, w.name+", behind the tree's Plan", c, l)
		for _, p := range w.pairs {
			w.drop(t, p.Key)
		}
		goOver(t, w.name+", behind the tree's Deletes", c, l)
		wantMove(t, w.name, midst, m, prev)
	}
}

func TestP12_1_ANewCursorSeesTheTreeAsItIs(t *testing.T) {
	for _, w := range woods(t) {
		cursor.New(w.tree).First()
		w.put(t, api.Pair{Key: "a", Value: "other"})
		pairs, err := w.tree.Pairs("", "", 1000)
		must(t, err)
		goOver(t, w.name, cursor.New(w.tree), newList(pairs))
	}
}

func TestP12_1_TheTreeDoesNotSeeTheCursor(t *testing.T) {
	for _, w := range woods(t) {
		tell := func() string {
			pages, err := w.tree.Pages()
			must(t, err)
			pairs, err := w.tree.Pairs("", "", 1000)
			must(t, err)
			_, written, synced := w.d.Counts()
			return fmt.Sprint(w.tree.Changed(), pages, pairs, written, synced)
		}
		before := tell()
		c, l := cursor.New(w.tree), newList(w.pairs)
		for _, k := range w.asked() {
			wantMove(t, w.name, c, l, seek(k))
			wantMove(t, w.name, c, l, back(k))
		}
		goOver(t, w.name, c, l)
		if tell() != before {
			t.Errorf("%s: the tree is another one behind a cursor's moves", w.name)
		}
	}
}

func TestP12_1_TwoCursors(t *testing.T) {
	for _, w := range woods(t) {
		a, b := cursor.New(w.tree), cursor.New(w.tree)
		on, off := newList(w.pairs), newList(w.pairs)
		for range len(w.pairs) + 2 {
			wantMove(t, w.name, a, on, next)
			wantAt(t, w.name, b, off)
			wantMove(t, w.name, b, off, prev)
			wantAt(t, w.name, a, on)
		}
	}
}

func TestP12_2_FirstAndLast(t *testing.T) {
	for _, w := range woods(t) {
		for _, m := range []move{first, last} {
			c, l := cursor.New(w.tree), newList(w.pairs)
			wantMove(t, w.name+", from no place", c, l, m)
			wantMove(t, w.name+", once more", c, l, m)
			for _, from := range []move{first, last, seek("k"), back("k"), next, seek(long("z") + "z")} {
				wantMove(t, w.name, c, l, from)
				wantMove(t, w.name+", behind "+from.name, c, l, m)
			}
		}
	}
}

func TestP12_3_SeekAndBack(t *testing.T) {
	for _, w := range woods(t) {
		c, l := cursor.New(w.tree), newList(w.pairs)
		for _, k := range w.asked() {
			wantMove(t, w.name, c, l, seek(k))
			wantMove(t, w.name, c, l, back(k))
			wantMove(t, w.name, c, l, back(k))
			wantMove(t, w.name, c, l, seek(k))
		}
	}
}

func TestP12_3_BackOfTheEmptyTextGoesOff(t *testing.T) {
	for _, w := range woods(t) {
		for _, from := range []move{first, last, back("")} {
			c, l := cursor.New(w.tree), newList(w.pairs)
			wantMove(t, w.name, c, l, from)
			wantMove(t, w.name, c, l, back(""))
			if p, is := c.Pair(); is || p != (api.Pair{}) {
				t.Errorf("%s: Back of the empty text is at %s", w.name, cut(p.Key))
			}
		}
	}
}

func TestP12_4_NextAndPrev(t *testing.T) {
	for _, w := range woods(t) {
		for _, p := range w.pairs {
			for _, m := range []move{next, prev} {
				c, l := cursor.New(w.tree), newList(w.pairs)
				wantMove(t, w.name, c, l, seek(p.Key))
				wantMove(t, w.name, c, l, m)
			}
		}
	}
}

func TestP12_4_OffAndOnAgain(t *testing.T) {
	for _, w := range woods(t) {
		for _, off := range []struct{ to, beyond move }{{last, next}, {first, prev}, {seek(""), back("")}, {back("b"), seek(long("\xff") + "z")}} {
			for _, on := range []move{next, prev, first, last, seek("a\x00"), back("k05")} {
				c, l := cursor.New(w.tree), newList(w.pairs)
				wantMove(t, w.name, c, l, off.to)
				wantMove(t, w.name, c, l, off.beyond)
				wantMove(t, w.name+", behind "+off.beyond.name, c, l, on)
				wantMove(t, w.name, c, l, on)
				wantMove(t, w.name, c, l, prev)
			}
		}
	}
}

func TestP12_5_PairReadsNothing(t *testing.T) {
	for _, w := range woods(t) {
		c, l := cursor.New(w.tree), newList(w.pairs)
		look := func() {
			t.Helper()
			read, written, synced := w.d.Counts()
			wantAt(t, w.name, c, l)
			wantAt(t, w.name+", once more", c, l)
			if a, b, s := w.d.Counts(); a != read || b != written || s != synced {
				t.Fatalf("%s: Pair has used the device", w.name)
			}
		}
		for _, m := range []move{first, next, seek("k"), back("k"), prev, last, next, next, back("")} {
			look()
			wantMove(t, w.name, c, l, m)
			look()
			w.d.Crash(nil)
			look()
			w.d.Revive()
		}
	}
}

func TestP12_6_AllPairsToAndFro(t *testing.T) {
	for _, w := range woods(t) {
		for _, m := range []struct {
			name string
			move func(c *cursor.Cursor) (bool, error)
			at   func(i int) int
		}{
			{"Next", (*cursor.Cursor).Next, func(i int) int { return i }},
			{"Prev", (*cursor.Cursor).Prev, func(i int) int { return len(w.pairs) - 1 - i }},
		} {
			c := cursor.New(w.tree)
			for round := range 2 {
				for i := range w.pairs {
					is, err := m.move(c)
					if p, has := c.Pair(); !is || err != nil || !has || p != w.pairs[m.at(i)] {
						t.Fatalf("%s: %s %d, round %d: %v, %v, at %s", w.name, m.name, i, round, is, err, cut(p.Key))
					}
				}
				is, err := m.move(c)
				if p, has := c.Pair(); is || err != nil || has || p != (api.Pair{}) {
					t.Fatalf("%s: one %s more: %v, %v, at %s", w.name, m.name, is, err, cut(p.Key))
				}
			}
		}
	}
}

// place is where a cursor is behind some moves; ok: the first of them went to a pair, and the last one.
func place(t *testing.T, w wood, moves ...func(c *cursor.Cursor) (bool, error)) (api.Pair, bool, bool) {
	t.Helper()
	c, ahead, is := cursor.New(w.tree), false, false
	for i, m := range moves {
		var err error
		is, err = m(c)
		must(t, err)
		if i == 0 {
			ahead = is
		}
	}
	p, has := c.Pair()
	if has != is {
		t.Fatalf("%s: Pair is at %v, the move said %v", w.name, has, is)
	}
	return p, ahead, is
}

func TestP12_6_ToAndFroAtEveryPair(t *testing.T) {
	on, off := (*cursor.Cursor).Next, (*cursor.Cursor).Prev
	for _, w := range woods(t) {
		for i, p := range w.pairs {
			to := func(c *cursor.Cursor) (bool, error) { return c.Seek(p.Key) }
			if got, _, _ := place(t, w, to, on, off); i+1 < len(w.pairs) && got != p {
				t.Fatalf("%s: Next and Prev from %s go to %s", w.name, cut(p.Key), cut(got.Key))
			}
			if got, _, _ := place(t, w, to, off, on); i > 0 && got != p {
				t.Fatalf("%s: Prev and Next from %s go to %s", w.name, cut(p.Key), cut(got.Key))
			}
		}
	}
}

func TestP12_6_SeekAndPrevAreBack(t *testing.T) {
	on, off := (*cursor.Cursor).Next, (*cursor.Cursor).Prev
	for _, w := range woods(t) {
		for _, k := range w.asked() {
			to := func(c *cursor.Cursor) (bool, error) { return c.Seek(k) }
			back := func(c *cursor.Cursor) (bool, error) { return c.Back(k) }
			want, wentBack, _ := place(t, w, back)
			upper, wentTo, _ := place(t, w, to)
			if got, _, is := place(t, w, to, off); wentTo && (got != want || is != wentBack) {
				t.Fatalf("%s: Seek(%s) and Prev go to %s, Back to %s", w.name, cut(k), cut(got.Key), cut(want.Key))
			}
			if got, _, is := place(t, w, back, on); wentBack && (got != upper || is != wentTo) {
				t.Fatalf("%s: Back(%s) and Next go to %s, Seek to %s", w.name, cut(k), cut(got.Key), cut(upper.Key))
			}
		}
	}
}

func TestP12_8_LongRuns(t *testing.T) {
	for i, w := range woods(t) {
		r := rand.New(rand.NewSource(int64(i)))
		c, l, keys := cursor.New(w.tree), newList(w.pairs), w.asked()
		for range 600 {
			k := keys[r.Intn(len(keys))]
			moves := []move{next, next, next, prev, prev, prev, seek(k), back(k), first, last}
			m := moves[r.Intn(len(moves))]
			for range 1 + r.Intn(4) {
				wantMove(t, w.name, c, l, m)
			}
		}
	}
}
