package query_test

import (
	"math/rand"
	"slices"
	"testing"

	"copse/api"
	"copse/device"
	"copse/query"
)

// changed does something to a record of all tables, and is what is in each of them then.
func (w *shop) changed(r *rand.Rand, rows []api.Row) []api.Row {
	w.t.Helper()
	x := row(r.Intn(40))
	for _, f := range abc().Fields {
		x.Items = append(x.Items, fewItems(r, f.Kind))
	}
	at := slices.IndexFunc(rows, func(o api.Row) bool { return o.ID == x.ID })
	away := at >= 0 && r.Intn(2) == 0
	for _, name := range layoutNames() {
		switch {
		case at < 0:
			must(w.t, w.tables.Insert(name, x))
		case away:
			must(w.t, w.tables.Remove(name, x.ID))
		default:
			must(w.t, w.tables.Update(name, x))
		}
	}
	rows = slices.Clone(rows)
	switch {
	case at < 0:
		return append(rows, x)
	case away:
		return slices.Delete(rows, at, at+1)
	}
	rows[at] = x
	return rows
}

// hold lets all tables be asked: their indexes say what their rows say, and whatever index answers a question, the answer is the same.
func (w *shop) hold(r *rand.Rand, rows []api.Row, questions int) {
	w.t.Helper()
	for name, d := range w.defs {
		w.rows[name] = rows
		all := w.ask(from(name))
		for i := range d.Indexes {
			by, err := w.tables.By(name, i, nil)
			must(w.t, err)
			slices.SortFunc(by, func(a, b api.Row) int { return a.ID - b.ID })
			if !sameRows(by, all) {
				w.t.Fatalf("%s: index %d has the records %v, the table %v", name, i, idsOf(by), idsOf(all))
			}
		}
	}
	for range questions {
		q := questionOf(r)
		for name := range w.defs {
			q.Table = name
			w.ask(q)
		}
	}
}

// failing lets the power fail somewhere in the next Commit, or behind it.
func (w *shop) failing(r *rand.Rand) {
	var fates []api.Fate
	for i := range 600 {
		if kind := r.Intn(4); kind > 0 {
			fates = append(fates, api.Fate{Index: i, Kind: kind, Cut: r.Intn(512)})
		}
	}
	w.d.Arm(r.Intn(80), fates)
}

// Transactions by chance, with the power failing in some of their commits and ahead of others.
func TestW10_TablesAndQuestionsBehindEveryCommitAndCrash(t *testing.T) {
	t.Parallel()
	seen := map[string]int{}
	for seed := range int64(4) {
		r := newRand(seed)
		w := layoutShop(t, r, 0)
		must(t, w.s.Commit())
		var counts []api.Row
		for range 25 {
			must(t, w.s.Begin())
			hand := counts
			for range 1 + r.Intn(6) {
				hand = w.changed(r, hand)
			}
			w.hold(r, hand, 1)
			switch r.Intn(5) {
			case 0:
				must(t, w.s.Rollback())
				hand = counts
			case 1:
				w.d.Crash(nil)
				w.refused(from("t0"), api.ErrDead)
				w.again()
				hand = counts
			case 2, 3:
				w.failing(r)
				if w.s.Commit() == nil {
					w.d.Crash(nil)
					w.again()
					seen["behind it"]++
					break
				}
				w.refused(from("t3"), api.ErrDead)
				w.again()
				found, err := query.Ask(w.tables, from("t0"))
				must(t, err)
				if sameRows(found, plainAnswer(w.defs["t0"], counts, from("t0"))) {
					hand = counts
					seen["the one ahead"]++
				} else {
					seen["the one under way"]++
				}
			default:
				must(t, w.s.Commit())
			}
			counts = hand
			w.hold(r, counts, 2)
		}
	}
	for _, what := range []string{"behind it", "the one ahead", "the one under way"} {
		if seen[what] == 0 {
			t.Errorf("none was met of: %s, %v", what, seen)
		}
	}
}

// again is a new store, opened, over a device on which the same lies, and whose power does not fail.
func (w *shop) again() {
	w.t.Helper()
	d, err := device.Open(w.d.Size(), w.d.Durable())
	must(w.t, err)
	w.d = d
	w.over()
	must(w.t, w.s.Open())
}

// The tenth example of the whole, as far as the tables and questions go.
func TestW10_Example(t *testing.T) {
	w := newShop(t, 8)
	w.define(api.Table{Name: "t", Fields: []api.Field{field("n", api.ItemNum), field("s", api.ItemText)}, Indexes: [][]int{{0}}})
	w.insert("t", row(1, num(5), text("x")))
	w.wantIDs("from t where n > 3", 1)
	w.wantIDs("from t where n = 5", 1)
	w.wantIDs("from t where n > 5")
}
