package cursor_test

import (
	"math/rand"
	"testing"

	"copse/api"
	"copse/cursor"
	"copse/sheet"
)

// wantMoveOrStay moves a cursor whose tree may not be read: it goes as ever, or answers that error and stays. It tells whether it went.
func wantMoveOrStay(t *testing.T, what string, c *cursor.Cursor, l *list, m move, refusal error) bool {
	t.Helper()
	is, err := m.do(c)
	what = what + ": " + m.name
	if err != nil {
		if is || err != refusal {
			t.Fatalf("%s = %v, %v, want false and %v", what, is, err, refusal)
		}
		wantAt(t, what+", refused", c, l)
		return false
	}
	m.on(l)
	if _, want := l.pair(); is != want {
		t.Fatalf("%s = %v, want %v", what, is, want)
	}
	wantAt(t, what, c, l)
	return true
}

func (w *wood) moves() []move {
	moves := []move{first, last, next, prev}
	for _, k := range w.asked() {
		moves = append(moves, seek(k), back(k))
	}
	return moves
}

func TestP12_8_ADeadDevice(t *testing.T) {
	refused := 0
	for _, w := range woods(t) {
		moves := w.moves()
		for _, from := range []move{back(""), first, last, seek("k05"), back("k05")} {
			for i := 0; i < len(moves); i += 1 + len(moves)/60 {
				c, l := cursor.New(w.tree), newList(w.pairs)
				wantMove(t, w.name, c, l, from)
				w.d.Crash(nil)
				if !wantMoveOrStay(t, w.name+", dead", c, l, moves[i], api.ErrDead) {
					refused++
				}
				w.d.Revive()
				wantMove(t, w.name+", alive again", c, l, next)
				wantMove(t, w.name+", alive again", c, l, moves[i])
			}
		}
	}
	if refused < 1000 {
		t.Errorf("only %d moves were refused", refused)
	}
}

func TestP12_8_WhereNoPageIsToBeRead(t *testing.T) {
	for _, w := range woods(t) {
		if n := len(w.pairs); n > 0 && w.tree.Changed() == 0 {
			continue
		}
		if pages, err := w.tree.Pages(); len(pages) > 0 || err != nil {
			continue
		}
		c, l := cursor.New(w.tree), newList(w.pairs)
		w.d.Crash(nil)
		for _, m := range w.moves() {
			wantMove(t, w.name+", dead", c, l, m)
		}
		goOver(t, w.name+", dead", c, l)
	}
}

func TestP12_8_TheDeviceDiesAmidARun(t *testing.T) {
	for i, w := range woods(t) {
		r := rand.New(rand.NewSource(int64(i)))
		c, l, moves := cursor.New(w.tree), newList(w.pairs), w.moves()
		for range 400 {
			if r.Intn(3) == 0 {
				w.d.Crash(nil)
			}
			if r.Intn(2) == 0 {
				w.d.Revive()
			}
			m := moves[r.Intn(len(moves))]
			if r.Intn(2) == 0 {
				m = moves[r.Intn(4)]
			}
			if w.d.Dead() {
				wantMoveOrStay(t, w.name+", dead", c, l, m, api.ErrDead)
			} else {
				wantMove(t, w.name, c, l, m)
			}
		}
	}
}

// A page that is gone is told as the tree tells it, whatever the device's power.
func TestP12_8_APageThatIsNoNode(t *testing.T) {
	refused := 0
	for _, w := range woods(t) {
		pages, err := w.tree.Pages()
		must(t, err)
		for _, id := range pages {
			s, err := sheet.Load(w.d, id)
			must(t, err)
			must(t, w.d.Write(8*id, make([]byte, api.SectorBytes)))
			c, l := cursor.New(w.tree), newList(w.pairs)
			for _, m := range []move{first, next, last, prev, seek("k05"), next, back("b"), prev} {
				if !wantMoveOrStay(t, w.name+", a page lost", c, l, m, api.ErrCorrupt) {
					refused++
				}
			}
			must(t, sheet.Store(w.d, s))
			must(t, w.d.Sync())
			wantMove(t, w.name+", the page back", c, l, next)
		}
	}
	if refused < 100 {
		t.Errorf("only %d moves were refused", refused)
	}
}
