package script_test

import (
	"fmt"
	"math/rand"
	"slices"
	"strings"

	"copse/api"
)

// writer makes up scripts. It goes by a state that the store may be in, so that what it asks for mostly makes sense.
type writer struct {
	rnd    *rand.Rand
	guess  state
	power  bool // it may fail
	keys   []string
	strict bool // no other keys
	values int  // the longest
	big    bool // it is a bigWriter: most commands are puts
}

func newWriter(rnd *rand.Rand, sectors int, power bool) *writer {
	w := &writer{rnd: rnd, guess: blankState(sectors), power: power, values: 700 * rnd.Intn(2)}
	if w.values == 0 {
		w.values = rnd.Intn(100)
	}
	shape := rnd.Intn(3)
	for i := range 1 + rnd.Intn(90) {
		w.keys = append(w.keys, []string{fmt.Sprint(i), longKey(i), anyText(rnd, 1+rnd.Intn(255))}[shape])
	}
	return w
}

// bigWriter makes up scripts in which trees grow deep: it takes many texts.
func bigWriter(rnd *rand.Rand, power bool) *writer {
	w := newWriter(rnd, 2400, power)
	w.keys, w.values, w.big = nil, 700, true
	for i := range 250 {
		w.keys = append(w.keys, longKey(i))
	}
	return w
}

// anyText is so many bytes, most of which can be seen.
func anyText(rnd *rand.Rand, n int) string {
	const some = "abc #\"\\\x00\n\x7f\xff"
	p := make([]byte, n)
	for i := range p {
		p[i] = some[rnd.Intn(len(some))]
	}
	return string(p)
}

func (w *writer) key() string {
	if len(w.keys) == 0 {
		return ""
	}
	if !w.strict && w.rnd.Intn(40) == 0 {
		return anyText(w.rnd, []int{0, 1, 255, 256, w.rnd.Intn(300)}[w.rnd.Intn(5)])
	}
	return w.keys[w.rnd.Intn(len(w.keys))]
}

func (w *writer) value() string {
	if w.rnd.Intn(40) == 0 {
		return strings.Repeat("v", 690+w.rnd.Intn(20))
	}
	if w.rnd.Intn(8) == 0 {
		return anyText(w.rnd, w.rnd.Intn(20))
	}
	n := w.rnd.Intn(w.values + 1)
	if w.big {
		n = w.values - n/3
	}
	return strings.Repeat(string(rune('a'+w.rnd.Intn(26))), n)
}

// usual is what is mostly asked for in each status.
var usual = [][]string{
	api.Closed:  often("open", 30, "format", 1, "status", 3),
	api.Opened:  often("begin", 12, "get", 2, "scan", 2, "close", 1, "txid", 1, "status", 1),
	api.Working: often("put", 40, "delete", 12, "get", 3, "scan", 3, "commit", 5, "rollback", 1, "close", 1),
	api.Broken:  often("rollback", 4, "close", 2, "status", 1, "commit", 1),
	api.Dead:    often("boot", 4, "crash", 2, "status", 1, "open", 1, "get", 1, "format", 1),
}

// often is names, each as many times as the number behind it says.
func often(list ...any) []string {
	var l []string
	for i := 0; i < len(list); i += 2 {
		l = append(l, slices.Repeat([]string{list[i].(string)}, list[i+1].(int))...)
	}
	return l
}

// every is what may be asked for at any time; the last ones are for scripts in which the power may fail.
var every = []string{"format", "open", "close", "begin", "put", "delete", "get", "scan", "commit", "rollback", "status", "txid", "counts", "boot", "crash", "arm"}

func (w *writer) name() string {
	n := w.rnd.Intn(100)
	switch {
	case w.power && n < 3 && (!w.big || w.rnd.Intn(3) == 0):
		return "arm"
	case w.power && n == 4 && (!w.big || w.rnd.Intn(3) == 0):
		return "crash"
	case w.guess.status == api.Closed && !w.guess.holds && n < 80:
		return "format"
	case n < 8 && w.power:
		return every[w.rnd.Intn(len(every))]
	case n < 8:
		return every[w.rnd.Intn(len(every)-3)]
	}
	if w.big && w.guess.status == api.Working && n < 70 {
		return "put"
	}
	l := usual[w.guess.status]
	return l[w.rnd.Intn(len(l))]
}

// order is the next command.
func (w *writer) order() order {
	name := w.name()
	switch name {
	case "put":
		return put(w.key(), w.value())
	case "delete":
		return del(w.key())
	case "get":
		return get(w.key())
	case "scan":
		from, to := w.key(), w.key()
		if w.rnd.Intn(2) == 0 {
			from, to = "", ""
		}
		return scan(from, to, []int{0, 1, 2, 3, 9, 1000, 1001, 999999999}[w.rnd.Intn(8)])
	case "arm":
		most := 10
		if w.big {
			most = 40
		}
		return arm(w.rnd.Intn(1+w.rnd.Intn(most)), anyFates(w.rnd, 1+w.rnd.Intn(10))...)
	case "crash":
		return crash(anyFates(w.rnd, w.rnd.Intn(3))...)
	}
	return plain(name)
}

// orders is commands whose text has about so many bytes, behind those that were made up already; nothing is open, and no arm waits.
func (w *writer) orders(bytes int) []order {
	w.guess = w.guess.booted()
	w.guess.armed = 0
	var l []order
	for bytes > 0 {
		o := w.order()
		l = append(l, o)
		bytes -= len(o.String()) + 1
		if o.name == "counts" {
			continue
		}
		may := w.guess.outcomes(o)
		w.guess = may[w.rnd.Intn(len(may))].next
		if o.name == "commit" && w.rnd.Intn(8) > 0 {
			w.guess = may[0].next // most commits are done
		}
	}
	return l
}
