package query_test

import (
	"fmt"
	"math"
	"math/rand"
	"slices"
	"strings"
	"testing"

	"copse/api"
	"copse/query"
)

// choose holds Choose against the promise's words.
func choose(t *testing.T, d api.Table, q api.Query) (api.Plan, error) {
	t.Helper()
	want, wantErr := plainChoose(d, q)
	got, err := query.Choose(d, q)
	if got != want || err != wantErr {
		t.Errorf("Choose(%.120q, %.120q) = %v, %v, want %v, %v", fmt.Sprint(d), fmt.Sprint(q), got, err, want, wantErr)
	}
	return got, err
}

func wantPlan(t *testing.T, index, bound int, d api.Table, q api.Query) {
	t.Helper()
	if p, err := choose(t, d, q); p != (api.Plan{Index: index, Bound: bound}) || err != nil {
		t.Errorf("Choose(%.120q, %.120q) = %v, %v, want %d, %d", fmt.Sprint(d), fmt.Sprint(q), p, err, index, bound)
	}
}

func wantNoPlan(t *testing.T, want error, d api.Table, q api.Query) {
	t.Helper()
	if p, err := choose(t, d, q); p != (api.Plan{}) || err != want {
		t.Errorf("Choose(%.120q, %.120q) = %v, %v, want %v", fmt.Sprint(d), fmt.Sprint(q), p, err, want)
	}
}

func TestP18_5_Examples(t *testing.T) {
	f, g := where("f", 1, num(1)), where("g", 1, text("x"))
	wantPlan(t, 1, 1, tableT(), from("T", f))
	wantPlan(t, 1, 2, tableT(), from("T", f, g))
	wantPlan(t, 1, 2, tableT(), from("T", g, f))
	wantPlan(t, -1, 0, tableT(), from("T", where("f", 4, num(1))))
	wantPlan(t, 0, 1, tableT(), from("T", g))
	wantPlan(t, -1, 0, tableT(), from("T", where("g", 1, num(1))))
	wantPlan(t, -1, 0, tableT(), from("T"))
	wantNoPlan(t, api.ErrLost, tableT(), from("T", where("h", 1, num(1))))
	wantNoPlan(t, api.ErrArg, tableT(), from("S"))
}

func TestP18_5_TheFaultsInTheirOrder(t *testing.T) {
	t.Parallel()
	seen := map[error]int{}
	one := api.Table{Name: "T", Fields: []api.Field{field("f", api.ItemNum)}, Indexes: [][]int{{0}}}
	other, bare := one, one
	other.Name = "S"
	bare.Fields = []api.Field{field("", api.ItemNum)}
	for _, q := range wrongQueries() {
		for _, d := range []api.Table{one, other, bare, {}, {Name: q.Table}} {
			_, err := choose(t, d, q)
			seen[err]++
		}
	}
	for _, err := range []error{nil, api.ErrArg, api.ErrMany, api.ErrLost} {
		if seen[err] < 10 {
			t.Errorf("%v was met %d times", err, seen[err])
		}
	}
	wantNoPlan(t, api.ErrArg, other, from("T", where("f", 1, deep(5))))
	wantNoPlan(t, api.ErrMany, one, from("T", where("x", 1, deep(5))))
	wantNoPlan(t, api.ErrArg, one, ordered(from("T", where("x", 1, num(1))), "", false, -1))
	wantNoPlan(t, api.ErrLost, one, ordered(from("T"), "x", false, 0))
	wantNoPlan(t, api.ErrLost, one, from("T", where("f", 1, num(1)), where("x", 1, num(1))))
	wantNoPlan(t, api.ErrLost, bare, from("T", where("f", 1, num(1))))
	wantPlan(t, -1, 0, bare, from("T"))
}

// abc is a table with the fields a, b, c, d, of numbers, texts, flags and lists.
func abc(indexes ...[]int) api.Table {
	return api.Table{Name: "T", Fields: []api.Field{field("a", api.ItemNum), field("b", api.ItemText), field("c", api.ItemFlag), field("d", api.ItemList)}, Indexes: indexes}
}

func TestP18_5_HowManyAreBound(t *testing.T) {
	a, b, c, d := where("a", 1, num(1)), where("b", 1, text("")), where("c", 1, flag(0)), where("d", 1, listOf())
	whole := []int{0, 1, 2, 3}
	wantPlan(t, -1, 0, abc(whole), from("T"))
	wantPlan(t, 0, 1, abc(whole), from("T", a))
	wantPlan(t, -1, 0, abc(whole), from("T", b, c, d))
	wantPlan(t, 0, 1, abc(whole), from("T", a, c, d))
	wantPlan(t, 0, 2, abc(whole), from("T", d, b, a))
	wantPlan(t, 0, 3, abc(whole), from("T", b, a, c))
	wantPlan(t, 0, 4, abc(whole), from("T", d, c, b, a))
	wantPlan(t, -1, 0, abc(), from("T", a, b, c, d))
	// Most are bound of the second, as many of the others; the lowest counts.
	wantPlan(t, 1, 2, abc([]int{0}, []int{1, 0}, []int{0, 1}, []int{1}), from("T", a, b))
	wantPlan(t, 0, 1, abc([]int{0}, []int{1}), from("T", a, b))
	wantPlan(t, 0, 1, abc([]int{0, 2}, []int{0}), from("T", a, b))
	wantPlan(t, 1, 1, abc([]int{2}, []int{0}), from("T", a, b))
	wantPlan(t, 3, 3, abc([]int{0}, []int{0, 1}, []int{0, 1, 3}, []int{0, 1, 2}), from("T", a, b, c))
	wantPlan(t, 4, 1, abc([]int{1}, []int{1, 0}, []int{2, 0}, nil, []int{0}, []int{0}), from("T", a))
}

func TestP18_5_WhatIsBound(t *testing.T) {
	d := abc([]int{0}, []int{1}, []int{2}, []int{3})
	for i, f := range d.Fields {
		for _, x := range samples() {
			for sign := 1; sign <= 5; sign++ {
				q := from("T", where(f.Name, sign, x))
				if sign == 1 && (x.Kind == api.ItemNull || x.Kind == f.Kind) {
					wantPlan(t, i, 1, d, q)
				} else {
					wantPlan(t, -1, 0, d, q)
				}
				q.Order, q.Limit = "d", 3
				choose(t, d, q)
			}
		}
	}
	// Several conditions on one field: one that binds is enough, wherever it stands.
	binds, not := where("a", 1, num(1)), []api.Condition{where("a", 1, text("x")), where("a", 2, num(1)), where("a", 5, null())}
	for i := range len(not) + 1 {
		wantPlan(t, 0, 1, d, from("T", slices.Insert(slices.Clone(not), i, binds)...))
	}
	wantPlan(t, -1, 0, d, from("T", not...))
	wantPlan(t, 0, 1, d, from("T", binds, where("a", 1, num(2))))
	wantPlan(t, 0, 1, d, from("T", binds, where("a", 1, null())))
}

// Definitions that layer 17 would not take.
func TestP18_5_OddDefinitions(t *testing.T) {
	a, b := where("a", 1, num(1)), where("b", 1, text(""))
	for _, n := range []int{-1, 4, 99, math.MinInt, math.MaxInt} {
		wantPlan(t, -1, 0, abc([]int{n}), from("T", a, b))
		wantPlan(t, 0, 1, abc([]int{0, n, 1}), from("T", a, b))
		wantPlan(t, 1, 1, abc([]int{n, 0}, []int{1}), from("T", a, b))
	}
	twice := api.Table{Name: "T", Fields: []api.Field{field("a", api.ItemNum), field("a", api.ItemText), field("b", api.ItemText)}, Indexes: [][]int{{1}, {2, 1, 0}, {0, 1}, {0, 2}}}
	wantPlan(t, 2, 1, twice, from("T", a))
	wantPlan(t, 3, 2, twice, from("T", a, b))
	wantPlan(t, -1, 0, twice, from("T", where("a", 1, text("x"))))
	wantPlan(t, 1, 1, twice, from("T", where("a", 1, text("x")), b))
	odd := api.Table{Name: "T", Fields: []api.Field{field("a", 1), field("b", 0), field("c", 77), field("", -1), field("a b", 3)}, Indexes: [][]int{{0}, {1}, {2}, nil, {}, {3}, {4}}}
	wantPlan(t, 0, 1, odd, from("T", where("a", 1, null())))
	wantPlan(t, -1, 0, odd, from("T", where("a", 1, num(1))))
	wantPlan(t, -1, 0, odd, from("T", where("b", 1, num(1)), where("c", 1, num(1))))
	wantPlan(t, 2, 1, odd, from("T", where("c", 1, null())))
	wantNoPlan(t, api.ErrArg, odd, from("T", where("a b", 1, null())))
	wantNoPlan(t, api.ErrArg, odd, from("T", where("", 1, null())))
	wantPlan(t, 0, 3, abc([]int{0, 0, 0, 2}), from("T", a))
	wantPlan(t, -1, 0, api.Table{Name: "T"}, from("T"))
	wantNoPlan(t, api.ErrArg, api.Table{}, api.Query{})
	many := abc(slices.Repeat([][]int{{1}}, 1000)...)
	many.Indexes = append(many.Indexes, slices.Repeat([]int{0}, 1000))
	wantPlan(t, 1000, 1000, many, from("T", a))
	wantPlan(t, 0, 1, many, from("T", b))
}

// randomDefinition is one that mostly may be.
func randomDefinition(r *rand.Rand) api.Table {
	d := api.Table{Name: "T"}
	for range 1 + r.Intn(8) {
		d.Fields = append(d.Fields, field(string(rune('a'+r.Intn(5))), 1+r.Intn(5)))
	}
	for range r.Intn(6) {
		var index []int
		for range r.Intn(5) {
			index = append(index, r.Intn(len(d.Fields)))
		}
		if r.Intn(4) == 0 {
			index = slices.Insert(index, r.Intn(len(index)+1), []int{-1, len(d.Fields), len(d.Fields) + 9}[r.Intn(3)])
		}
		d.Indexes = append(d.Indexes, index)
	}
	return d
}

func TestP18_5_Runs(t *testing.T) {
	t.Parallel()
	r := newRand(5)
	seen := map[string]int{}
	for range 60000 {
		d, q := randomDefinition(r), from("T")
		for range r.Intn(6) {
			f := d.Fields[r.Intn(len(d.Fields))]
			if r.Intn(20) == 0 {
				f.Name = "x"
			}
			if r.Intn(4) == 0 {
				f.Kind = 1 + r.Intn(5)
			}
			q.Conditions = append(q.Conditions, where(f.Name, 1+r.Intn(2)*r.Intn(5), randomItem(r, f.Kind, 4)))
		}
		if r.Intn(4) == 0 {
			q.Order = string(rune('a' + r.Intn(5)))
		}
		p, err := choose(t, d, q)
		seen[fmt.Sprint(err, " ", p.Bound)]++
		if t.Failed() {
			return
		}
	}
	for _, want := range []string{"<nil> 0", "<nil> 1", "<nil> 2", "<nil> 3", fmt.Sprint(api.ErrLost, " 0")} {
		if seen[want] < 50 {
			t.Errorf("%s was met %d times: %v", want, seen[want], seen)
		}
	}
}

func TestP18_5_ManyFields(t *testing.T) {
	d := api.Table{Name: "T"}
	q := from("T")
	for i := range 30000 {
		name := fmt.Sprint("f", i)
		d.Fields = append(d.Fields, field(name, api.ItemNum))
		q.Conditions = append(q.Conditions, where(name, 1, num(1)))
	}
	d.Indexes = [][]int{{0}, {5, 29999, 7}, {1, 2}}
	if p, err := query.Choose(d, q); p != (api.Plan{Index: 1, Bound: 3}) || err != nil {
		t.Errorf("%v, %v", p, err)
	}
	r := api.Row{Items: slices.Repeat([]api.Item{num(1)}, 30000)}
	if ok, err := query.Match(d, r, q.Conditions); !ok || err != nil {
		t.Errorf("%v, %v", ok, err)
	}
	q.Conditions[29999].Field = strings.Repeat("x", 5)
	if _, err := query.Choose(d, q); err != api.ErrLost {
		t.Errorf("%v", err)
	}
}
