package table_test

import (
	"fmt"
	"math"
	"math/rand"
	"strings"
	"testing"

	"copse/api"
)

func newRand(seed int64) *rand.Rand { return rand.New(rand.NewSource(seed)) }

// randomTable is one that mostly may be.
func randomTable(r *rand.Rand) api.Table {
	d := api.Table{Name: []string{"a", "aa", "b", "~", strings.Repeat("n", 32)}[r.Intn(5)]}
	for i := range 1 + r.Intn(8) {
		d.Fields = append(d.Fields, field(fmt.Sprint("f", i), 2+r.Intn(4)))
	}
	for range r.Intn(5) {
		d.Indexes = append(d.Indexes, r.Perm(len(d.Fields))[:1+r.Intn(min(3, len(d.Fields)))])
	}
	switch r.Intn(20) {
	case 0:
		d.Name = ""
	case 1:
		d.Fields[0].Name = "f1"
	case 2:
		d.Fields[0].Kind = r.Intn(9)
	case 3:
		d.Indexes = append(d.Indexes, []int{len(d.Fields) - 1, r.Intn(9) - 1})
	case 4:
		d.Fields = append(d.Fields, field("x", 2), field("y", 3))
	}
	return d
}

// spoiled is a record with something that mostly may not be.
func spoiled(r *rand.Rand, x api.Row) api.Row {
	switch at := r.Intn(len(x.Items)); r.Intn(8) {
	case 0:
		x.ID = []int{-1, math.MinInt, math.MaxInt}[r.Intn(3)]
	case 1:
		x.Items = x.Items[:at]
	case 2:
		x.Items = append(x.Items, null())
	case 3:
		x.Items[at] = api.Item{Kind: r.Intn(9) - 1}
	case 4:
		x.Items[at].Num = 2
	case 5:
		x.Items[at] = text(strings.Repeat("x", 150+r.Intn(100)))
	case 6:
		x.Items[at] = text(strings.Repeat("x", 650+r.Intn(100)))
	case 7:
		x.Items[at] = deep(4 + r.Intn(2))
	}
	return x
}

// randomCall is a call whose arguments mostly may be.
func randomCall(r *rand.Rand, m *model) call {
	names := []string{"a", "aa", "b", "~", strings.Repeat("n", 32), "none", ""}
	c := call{what: calls[r.Intn(len(calls))], name: names[r.Intn(4+r.Intn(4))], index: r.Intn(6) - 1, table: randomTable(r)}
	if r.Intn(3) == 0 {
		c.what = "Insert"
	}
	p, there := m.world().tables[c.name]
	if !there {
		c.row = row(r.Intn(3)-1, num(1))
		return c
	}
	c.row = randomRow(r, p.def, r.Intn(25))
	if r.Intn(8) == 0 {
		c.row = spoiled(r, c.row)
	}
	if c.index < 0 || c.index >= len(p.def.Indexes) {
		return c
	}
	for _, n := range p.def.Indexes[c.index][:r.Intn(len(p.def.Indexes[c.index])+1)] {
		c.items = append(c.items, randomItem(r, p.def.Fields[n].Kind, 4))
	}
	if r.Intn(10) == 0 {
		c.items = append(c.items, api.Item{Kind: r.Intn(7), Num: r.Intn(3)})
	}
	return c
}

// step does one thing to the store, or makes a call.
func (w *twin) step(r *rand.Rand) {
	switch n := r.Intn(100); {
	case n < 85:
		w.do(randomCall(r, w.m))
	case n < 90:
		w.whole()
	case w.m.status == api.Opened:
		w.begin()
	case n < 95:
		w.commit()
	case n < 97:
		w.rollback()
	case n < 98:
		w.close()
		w.do(randomCall(r, w.m))
		w.open()
	default:
		w.d.Crash(nil)
		w.s.Close()
		w.m.status = api.Dead
		w.do(randomCall(r, w.m))
		w.again()
	}
}

// Steps by chance, held against plain tables.
func TestP17_8_Runs(t *testing.T) {
	t.Parallel()
	seen := map[string]int{}
	for seed := range int64(60) {
		w := working(t, 400)
		w.seen = seen
		r := newRand(seed)
		for range 400 {
			w.step(r)
		}
		w.whole()
	}
	for _, what := range calls {
		for _, status := range []string{"Opened", "Working", "Closed", "Dead"} {
			n := 0
			for k, v := range seen {
				if strings.HasPrefix(k, what+" in "+status) {
					n += v
				}
			}
			if n == 0 {
				t.Errorf("%s was never called in %s", what, status)
			}
		}
	}
	for _, what := range []string{"Insert", "Update"} {
		for _, err := range []error{api.ErrArg, api.ErrKind, api.ErrMany, api.ErrLost, nil} {
			if seen[fmt.Sprint(what, " in Working: ", err)] == 0 {
				t.Errorf("no %s was answered %v", what, err)
			}
		}
	}
	for _, err := range []error{api.ErrArg, api.ErrKind, api.ErrLost, nil} {
		if seen[fmt.Sprint("By in Working: ", err)] == 0 {
			t.Errorf("no By was answered %v", err)
		}
	}
}
