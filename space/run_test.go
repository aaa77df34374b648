package space_test

import (
	"fmt"
	"math/rand"
	"strings"
	"testing"

	"copse/api"
)

func newRand(seed int64) *rand.Rand { return rand.New(rand.NewSource(seed)) }

// randomCall is a call whose arguments mostly may be.
func randomCall(r *rand.Rand) call {
	names := []string{"a", "a", "ab", "b", "~", strings.Repeat("n", 32)}
	c := call{what: calls[r.Intn(len(calls))], name: names[r.Intn(len(names))], limit: []int{0, 1, 2, 7, 1000, 1001, 1 << 50}[r.Intn(7)]}
	if c.what == "Drop" && r.Intn(4) > 0 {
		c.what = "Put"
	}
	c.key, c.value = randomKey(r), strings.Repeat("v", r.Intn(30))
	if c.what == "Scan" {
		c.key = c.key[:r.Intn(len(c.key)+1)]
	}
	switch r.Intn(60) {
	case 0:
		c.name = []string{"", "a b", strings.Repeat("n", 33)}[r.Intn(3)]
	case 1:
		c.key = append(c.key, api.Item{Kind: r.Intn(9) - 1, Num: 2, Text: "x"})
	case 2:
		c.key = ones(14 + r.Intn(4))
	case 3:
		c.key = filled(250 + r.Intn(10))
	case 4:
		c.limit, c.value = -1, strings.Repeat("v", 699+r.Intn(4))
	case 5:
		c.key = nil
	}
	return c
}

// randomForeign is a key that somebody may put without this layer: some belong to a space nevertheless, some make one.
func randomForeign(r *rand.Rand) string {
	switch r.Intn(5) {
	case 0:
		return head([]string{"a", "ab", "c"}[r.Intn(3)])
	case 1:
		return at("a", randomKey(r)...)
	case 2:
		return head("a") + randomText(r) + "\x06"
	case 3:
		return at("ab", randomKey(r)...) + randomText(r)
	}
	return "\x04" + randomText(r) + "\x00\x00"
}

// step does one thing to the store, or makes a call.
func (w *twin) step(r *rand.Rand) {
	switch n := r.Intn(100); {
	case n < 80:
		w.do(randomCall(r))
	case n < 88 && w.m.status == api.Working:
		if r.Intn(3) > 0 {
			w.put(randomForeign(r), "x")
		} else {
			w.del(randomForeign(r))
		}
	case n < 90:
		w.whole()
	case w.m.status == api.Opened:
		w.begin()
	case n < 95:
		w.commit()
	case n < 98:
		w.rollback()
	case n < 99:
		w.close()
		w.do(randomCall(r))
		w.open()
	default:
		w.d.Crash(nil)
		w.s.Close()
		w.m.status = api.Dead
		w.do(randomCall(r))
		w.again()
	}
}

// Steps by chance, held against a plain map.
func TestP16_8_Runs(t *testing.T) {
	seen := map[string]int{}
	for seed := range int64(60) {
		w := working(t, 200)
		w.seen = seen
		r := newRand(seed)
		for range 400 {
			if w.step(r); w.m.status == api.Working && len(w.m.hand) > 250 {
				w.do(call{what: "Drop", name: "a"})
			}
		}
	}
	for _, what := range calls {
		for _, status := range []string{"Opened", "Working", "Closed", "Dead"} {
			n := 0
			for k, v := range seen {
				if strings.HasPrefix(k, what+" in "+status) {
					n += v
				}
			}
			if n == 0 {
				t.Errorf("%s was never called in %s", what, status)
			}
		}
	}
	for _, k := range []error{api.ErrArg, api.ErrMany, api.ErrShort, api.ErrLost, nil} {
		if seen[fmt.Sprint("Put in Working: ", k)] == 0 {
			t.Errorf("no Put was answered %v", k)
		}
	}
}
