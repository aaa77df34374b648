package query_test

import (
	"fmt"
	"math"
	"slices"
	"strings"
	"testing"

	"copse/api"
	"copse/query"
)

func field(name string, kind int) api.Field { return api.Field{Name: name, Kind: kind} }

// tableT is the table of the chapter's examples.
func tableT() api.Table {
	return api.Table{Name: "T", Fields: []api.Field{field("f", api.ItemNum), field("g", api.ItemText)}, Indexes: [][]int{{1}, {0, 1}}}
}

// match holds Match against the promise's words.
func match(t *testing.T, d api.Table, r api.Row, l ...api.Condition) (bool, error) {
	t.Helper()
	want, wantErr := plainMatch(d, r, l)
	got, err := query.Match(d, r, l)
	if got != want || err != wantErr {
		t.Errorf("Match(%.90q, %.90q, %.90q) = %v, %v, want %v, %v", fmt.Sprint(d), fmt.Sprint(r), fmt.Sprint(l), got, err, want, wantErr)
	}
	return got, err
}

func wantMatch(t *testing.T, want bool, wantErr error, d api.Table, r api.Row, l ...api.Condition) {
	t.Helper()
	if got, err := match(t, d, r, l...); got != want || err != wantErr {
		t.Errorf("Match(%.90q, %.90q) = %v, %v, want %v, %v", fmt.Sprint(r), fmt.Sprint(l), got, err, want, wantErr)
	}
}

func TestP18_4_Examples(t *testing.T) {
	r := row(1, num(5), null())
	wantMatch(t, true, nil, tableT(), r, where("f", 2, num(6)))
	wantMatch(t, false, nil, tableT(), r, where("g", 2, text("z")))
	wantMatch(t, true, nil, tableT(), r, where("g", 1, null()))
	wantMatch(t, true, nil, tableT(), r)
	wantMatch(t, true, nil, tableT(), r, where("f", 2, num(6)), where("g", 1, null()))
	wantMatch(t, false, nil, tableT(), r, where("f", 2, num(6)), where("g", 2, text("z")))
	wantMatch(t, false, nil, tableT(), r, where("g", 2, text("z")), where("f", 2, num(6)))
}

func TestP18_4_HowManyItems(t *testing.T) {
	broken := where("x", 0, api.Item{})
	for fields := range 4 {
		d := api.Table{Name: "T", Fields: []api.Field{field("f", 3), field("g", 4), field("h", 5)}[:fields]}
		for n := range 5 {
			r := api.Row{ID: 1, Items: slices.Repeat([]api.Item{null()}, n)}
			var want error
			if n != fields {
				want = api.ErrArg
			}
			wantMatch(t, n == fields, want, d, r)
			match(t, d, r, broken)
			r.Items = slices.Repeat([]api.Item{{Kind: 9}}, n)
			match(t, d, r)
			match(t, d, r, broken)
		}
	}
	wantMatch(t, true, nil, api.Table{}, api.Row{})
	wantMatch(t, false, api.ErrLost, api.Table{}, api.Row{}, where("f", 1, null()))
}

// samples are items of every kind, rising.
func samples() []api.Item {
	return []api.Item{
		null(), flag(0), flag(1), num(math.MinInt), num(-1), num(0), num(1), num(256), num(math.MaxInt), text(""), text("\x00"), text("a"), text("a\x00"), text("aa"), text("a\xff"), text("b"), text("\xff"),
		listOf(), listOf(null()), listOf(null(), null()), listOf(flag(1)), listOf(num(1)), listOf(num(1), num(0)), listOf(num(2)), listOf(text("a")), listOf(listOf()), listOf(listOf(num(1)), null()), deep(4),
	}
}

// Every sign against every two items.
func TestP18_4_Signs(t *testing.T) {
	d := api.Table{Name: "T", Fields: []api.Field{field("f", api.ItemNum), field("g", api.ItemText)}}
	all := samples()
	for i, x := range all {
		for j, y := range all {
			one := x.Kind == y.Kind
			for sign, want := range []bool{1: i == j, 2: one && i < j, 3: one && i <= j, 4: one && i > j, 5: one && i >= j} {
				if sign == 0 {
					continue
				}
				wantMatch(t, want, nil, d, row(1, x, null()), where("f", sign, y))
				wantMatch(t, want, nil, d, row(1, null(), x), where("g", sign, y))
			}
		}
	}
}

func TestP18_4_AllConditionsMustHold(t *testing.T) {
	r := row(7, num(5), text("m"))
	holding := []api.Condition{where("f", 1, num(5)), where("f", 2, num(6)), where("f", 3, num(5)), where("g", 4, text("a")), where("g", 5, text("m"))}
	wantMatch(t, true, nil, tableT(), r, holding...)
	for i := range holding {
		l := slices.Clone(holding)
		l[i] = where("g", 1, text("x"))
		wantMatch(t, false, nil, tableT(), r, l...)
		wantMatch(t, true, nil, tableT(), r, slices.Delete(l, i, i+1)...)
	}
	wantMatch(t, false, nil, tableT(), r, where("f", 1, num(5)), where("f", 1, num(6)))
}

func TestP18_4_Fields(t *testing.T) {
	r := row(1, num(5), num(7), num(9))
	twice := api.Table{Name: "T", Fields: []api.Field{field("f", 3), field("f", 3), field("g", 3)}}
	wantMatch(t, true, nil, twice, r, where("f", 1, num(5)))
	wantMatch(t, false, nil, twice, r, where("f", 1, num(7)))
	wantMatch(t, true, nil, twice, r, where("g", 1, num(9)), where("f", 2, num(6)))
	for _, name := range []string{"", "F", "f ", "ff", "T", "from", "g\x00"} {
		wantMatch(t, false, api.ErrLost, twice, r, where(name, 1, num(5)))
		wantMatch(t, false, api.ErrLost, twice, r, where("f", 1, num(0)), where(name, 1, num(5)))
		// A definition need not be one that could be made: what it says is taken.
		odd := api.Table{Fields: []api.Field{field("f", 0), field(name, -5), field(name, 77)}, Indexes: [][]int{{-1}}}
		wantMatch(t, true, nil, odd, r, where(name, 1, num(7)))
	}
}

// Conditions with several faults, and records with some: which of them is told.
func TestP18_4_TheFaultsInTheirOrder(t *testing.T) {
	t.Parallel()
	var conditions []api.Condition
	for _, name := range []string{"f", "x", ""} {
		for _, sign := range []int{1, 2, 5, 0, 6, -1, math.MaxInt} {
			for _, x := range []api.Item{num(1), null(), {}, {Kind: 9}, flag(2), {Kind: api.ItemNum, Text: "x"}, deep(5)} {
				conditions = append(conditions, where(name, sign, x))
			}
		}
	}
	records := [][]api.Item{{num(1), text("x")}, {num(2), null()}, {deep(5), flag(2)}, {flag(2), deep(5)}, {num(1), deep(5)}, {num(2), api.Item{}}, {api.Item{Kind: 9}, null()}, {num(1)}, nil, {deep(5)}, {num(1), null(), null()}}
	seen := map[string]int{}
	for _, items := range records {
		r := row(1, items...)
		for _, a := range conditions {
			match(t, tableT(), r, a)
			for _, b := range conditions {
				got, err := match(t, tableT(), r, a, b)
				seen[fmt.Sprint(got, err)]++
			}
		}
		match(t, tableT(), r)
	}
	if len(seen) != 5 { // true, false, and with false ErrArg, ErrLost, ErrMany
		t.Errorf("only these were met: %v", seen)
	}
}

func TestP18_4_FaultsOfTheRecord(t *testing.T) {
	for _, x := range wrongItems() {
		want := aloneFault(x)
		for _, l := range [][]api.Condition{nil, {where("g", 1, text("no"))}, {where("f", 1, num(1)), where("f", 1, num(2))}} {
			got, err := match(t, tableT(), row(1, num(1), x), l...)
			if err != want || got && err != nil {
				t.Errorf("%.50q: %v, %v, want %v", fmt.Sprint(x), got, err, want)
			}
			match(t, tableT(), row(1, x, num(1)), l...)
			match(t, tableT(), row(1, x, deep(5)), l...)
			match(t, tableT(), row(1, x, api.Item{}), l...)
		}
		match(t, tableT(), row(1, num(1), text("x")), where("f", 1, x))
		match(t, tableT(), row(1, x, text("x")), where("f", 1, x))
	}
	// Each alone may be, though all together are too long.
	long := text(strings.Repeat("x", 65533))
	wantMatch(t, true, nil, tableT(), row(1, long, long), where("f", 1, long), where("g", 1, long))
	wantMatch(t, true, nil, tableT(), row(-5, deep(4), deep(4)), where("f", 5, deep(4)))
}
