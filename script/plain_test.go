package script_test

import (
	"fmt"
	"maps"
	"math/rand"
	"slices"
	"strconv"
	"strings"
	"testing"

	"copse/api"
	"copse/device"
	"copse/kv"
	"copse/script"
	"copse/walk"
)

func must(t *testing.T, err error) {
	t.Helper()
	if err != nil {
		t.Fatal(err)
	}
}

// order is a command in its parts: number is scan's limit and arm's.
type order struct {
	name   string
	texts  []string
	number int
	fates  []api.Fate
}

func plain(name string) order { return order{name: name} }

func put(key, value string) order { return order{name: "put", texts: []string{key, value}} }

func del(key string) order { return order{name: "delete", texts: []string{key}} }

func get(key string) order { return order{name: "get", texts: []string{key}} }

func scan(from, to string, limit int) order {
	return order{name: "scan", texts: []string{from, to}, number: limit}
}

func arm(after int, fates ...api.Fate) order {
	return order{name: "arm", number: after, fates: fates}
}

func crash(fates ...api.Fate) order { return order{name: "crash", fates: fates} }

// row is orders one behind the other: names of some that have no arguments, orders, and lists of them.
func row(parts ...any) []order {
	var l []order
	for _, p := range parts {
		switch p := p.(type) {
		case string:
			for _, name := range strings.Fields(p) {
				l = append(l, plain(name))
			}
		case order:
			l = append(l, p)
		case []order:
			l = append(l, p...)
		}
	}
	return l
}

func fateWord(f api.Fate) string {
	switch f.Kind {
	case api.FateKeep:
		return fmt.Sprintf("keep=%d", f.Index)
	case api.FateDrop:
		return fmt.Sprintf("drop=%d", f.Index)
	}
	return fmt.Sprintf("tear=%d:%d:%s", f.Index, f.Cut, f.Junk)
}

// words is a command as its words.
func (o order) words() []string {
	l := append([]string{o.name}, o.texts...)
	if o.name == "scan" || o.name == "arm" {
		l = append(l, fmt.Sprint(o.number))
	}
	for _, f := range o.fates {
		l = append(l, fateWord(f))
	}
	return l
}

// String is a command as a line.
func (o order) String() string {
	l := o.words()
	for i := range l {
		l[i] = plainQuote(l[i])
	}
	return strings.Join(l, " ")
}

func textOf(l []order) string {
	var lines []string
	for _, o := range l {
		lines = append(lines, o.String())
	}
	return strings.Join(lines, "\n")
}

// disk is what lies durably on a device of so many sectors.
type disk struct {
	sectors int
	list    []api.Sector
}

func zeros(sectors int) disk { return disk{sectors: sectors} }

func (d disk) device(t *testing.T) *device.Device {
	t.Helper()
	v, err := device.Open(d.sectors, d.list)
	must(t, err)
	return v
}

func (d disk) equals(other disk) bool {
	return d.sectors == other.sectors && slices.Equal(d.list, other.list)
}

func (d disk) survey(t *testing.T) api.Survey {
	t.Helper()
	s, err := walk.Survey(d.device(t))
	must(t, err)
	return s
}

func (d disk) content(t *testing.T) book {
	t.Helper()
	l, err := walk.Content(d.device(t))
	must(t, err)
	b := book{}
	for _, p := range l {
		b[p.Key] = p.Value
	}
	return b
}

// sector is the bytes of a sector.
func (d disk) sector(index int) string {
	for _, x := range d.list {
		if x.Index == index {
			return x.Data
		}
	}
	return strings.Repeat("\x00", 512)
}

// playText runs a text: its answers, and what is durable then.
func (d disk) playText(t *testing.T, text string) ([]string, disk) {
	t.Helper()
	answers, list, err := script.Run(d.sectors, d.list, text)
	if err != nil {
		t.Fatalf("Run of %.300q: %v", text, err)
	}
	for _, a := range answers {
		wantSeen(t, a)
	}
	return answers, disk{d.sectors, list}
}

// wantSeen holds an answer against P15.6: no byte that can't be seen.
func wantSeen(t *testing.T, answer string) {
	t.Helper()
	for _, b := range []byte(answer) {
		if b < 0x20 || b > 0x7e {
			t.Fatalf("the answer %.300q has a byte %02x", answer, b)
		}
	}
}

// play runs orders.
func (d disk) play(t *testing.T, l []order) ([]string, disk) {
	t.Helper()
	answers, after := d.playText(t, textOf(l))
	if len(answers) != len(l) {
		t.Fatalf("%d answers to %d commands", len(answers), len(l))
	}
	return answers, after
}

// built is what lies there when these orders were played, each of which must be done.
func (d disk) built(t *testing.T, l []order) disk {
	t.Helper()
	answers, after := d.play(t, l)
	for i, a := range answers {
		if a != "ok" {
			t.Fatalf("%.40v: %s", l[i], a)
		}
	}
	return after
}

// byHand plays orders without a text, by the calls of layers 3 and 14.
type byHand struct {
	d *device.Device
	s *kv.Store
}

func (d disk) byHand(t *testing.T) *byHand {
	t.Helper()
	v := d.device(t)
	return &byHand{d: v, s: kv.New(v)}
}

func (h *byHand) boot() {
	h.d.Revive()
	h.s = kv.New(h.d)
}

// told is an answer, or the name of the refusal in its place.
func told(answer string, err error) string {
	for _, r := range []struct {
		err  error
		name string
	}{
		{api.ErrArg, "arg"}, {api.ErrText, "text"}, {api.ErrMany, "many"}, {api.ErrShort, "short"}, {api.ErrTwice, "twice"}, {api.ErrLost, "lost"}, {api.ErrFull, "full"},
		{api.ErrDead, "dead"}, {api.ErrCorrupt, "corrupt"}, {api.ErrStatus, "status"}, {api.ErrTxid, "txid"}, {api.ErrOrder, "order"}, {api.ErrKind, "kind"},
	} {
		if r.err == err {
			return "error " + r.name
		}
	}
	return answer
}

// noneIf is none, if there is nothing, else the answer.
func noneIf(nothing bool, answer string) string {
	if nothing {
		return "none"
	}
	return answer
}

func pairsTold(l []api.Pair) string {
	out := fmt.Sprintf("pairs %d", len(l))
	for _, p := range l {
		out += " " + plainQuote(p.Key) + " " + plainQuote(p.Value)
	}
	return out
}

func (h *byHand) do(o order) string {
	switch o.name {
	case "put":
		return told("ok", h.s.Put(o.texts[0], o.texts[1]))
	case "delete":
		had, err := h.s.Delete(o.texts[0])
		return told(noneIf(!had, "ok"), err)
	case "get":
		value, has, err := h.s.Get(o.texts[0])
		return told(noneIf(!has, "value "+plainQuote(value)), err)
	case "scan":
		l, err := h.s.Scan(o.texts[0], o.texts[1], o.number)
		return told(pairsTold(l), err)
	case "status":
		return fmt.Sprintf("status %d", h.s.Status())
	case "txid":
		return fmt.Sprintf("txid %d", h.s.Txid())
	case "counts":
		_, written, synced := h.d.Counts()
		return fmt.Sprintf("counts %d %d", written, synced)
	case "crash":
		h.d.Crash(o.fates)
		h.boot()
	case "arm":
		h.d.Arm(o.number, o.fates)
	case "boot":
		h.boot()
	default:
		return told("ok", h.plainCall(o.name)())
	}
	return "ok"
}

func (h *byHand) plainCall(name string) func() error {
	return map[string]func() error{
		"format": h.s.Format, "open": h.s.Open, "close": h.s.Close, "begin": h.s.Begin, "commit": h.s.Commit, "rollback": h.s.Rollback,
	}[name]
}

// book is a plain map of keys to values.
type book map[string]string

func (b book) with(key, value string) book {
	c := maps.Clone(b)
	c[key] = value
	return c
}

func (b book) without(key string) book {
	c := maps.Clone(b)
	delete(c, key)
	return c
}

func (b book) scan(from, to string, limit int) []api.Pair {
	var l []api.Pair
	for _, k := range slices.Sorted(maps.Keys(b)) {
		if len(l) < limit && k >= from && (to == "" || k < to) {
			l = append(l, api.Pair{Key: k, Value: b[k]})
		}
	}
	return l
}

// state is one in which the model may be: a status, what is durable, what is at hand. It knows nothing of pages: where a commit finds no room and where an arm goes off is not its affair, but what may come of it is.
type state struct {
	sectors int
	status  int
	dead    bool // the device
	armed   int  // arms that wait
	holds   bool // a store lies there: the next two
	txid    uint64
	counts  book
	hand    book
}

func (s state) equals(r state) bool {
	return s.status == r.status && s.dead == r.dead && s.armed == r.armed && s.holds == r.holds && s.txid == r.txid && maps.Equal(s.counts, r.counts) && maps.Equal(s.hand, r.hand)
}

// blankState is the model of a device of zeros.
func blankState(sectors int) state { return state{sectors: sectors} }

// outcome is an answer that the model has, and its state behind it.
type outcome struct {
	answer string
	next   state
}

func only(answer string, next state) []outcome { return []outcome{{answer, next}} }

// mayCome is chapter 14's table.
var mayCome = map[string][]int{
	"format":   {api.Closed, api.Opened},
	"open":     {api.Closed},
	"close":    {api.Opened, api.Working, api.Broken},
	"begin":    {api.Opened},
	"put":      {api.Working},
	"delete":   {api.Working},
	"get":      {api.Opened, api.Working},
	"scan":     {api.Opened, api.Working},
	"commit":   {api.Working},
	"rollback": {api.Working, api.Broken},
}

func badKey(key string) bool { return len(key) < 1 || len(key) > 255 }

func (o order) argFault() bool {
	switch o.name {
	case "put":
		return badKey(o.texts[0]) || len(o.texts[1]) > 700
	case "delete", "get":
		return badKey(o.texts[0])
	case "scan":
		return o.number > 1000
	}
	return false
}

// shut is the state with nothing open.
func (s state) shut(status int) state {
	s.status, s.hand = status, nil
	return s
}

// holding is the state with a store on the device.
func (s state) holding(txid uint64, b book) state {
	s.holds, s.txid, s.counts = true, txid, b
	return s
}

func (s state) booted() state {
	s.dead = false
	return s.shut(api.Closed)
}

// died is the state when an arm has gone off.
func (s state) died() state {
	s.dead, s.armed = true, s.armed-1
	return s.shut(api.Dead)
}

// outcomes is all that may come of a command.
func (s state) outcomes(o order) []outcome {
	next := s
	switch o.name {
	case "status":
		return only(fmt.Sprintf("status %d", s.status), s)
	case "txid":
		if s.status == api.Closed || s.status == api.Dead {
			return only("txid 0", s)
		}
		return only("txid "+strconv.FormatUint(s.txid, 10), s)
	case "crash", "boot":
		return only("ok", s.booted())
	case "arm":
		next.armed++
		return only("ok", next)
	}
	if s.status == api.Dead || s.dead {
		return only("error dead", s.shut(api.Dead))
	}
	if !slices.Contains(mayCome[o.name], s.status) {
		return only("error status", s)
	}
	if o.argFault() {
		return only("error arg", s)
	}
	switch o.name {
	case "format":
		return s.formats()
	case "commit":
		return s.commits()
	case "open":
		if !s.holds {
			return only("error corrupt", s)
		}
		next.status = api.Opened
	case "close":
		next = s.shut(api.Closed)
	case "begin":
		next.status, next.hand = api.Working, s.counts
	case "rollback":
		next = s.shut(api.Opened)
	default:
		return only(s.works(o))
	}
	return only("ok", next)
}

func (s state) formats() []outcome {
	if s.sectors < 32 {
		return only("error arg", s)
	}
	done := s.holding(0, book{})
	l := only("ok", done.shut(api.Closed))
	if s.armed > 0 {
		none := s
		none.holds, none.txid, none.counts = false, 0, nil
		l = append(l, outcome{"error dead", s.died()}, outcome{"error dead", none.died()}, outcome{"error dead", done.died()})
	}
	return l
}

func (s state) commits() []outcome {
	if s.txid == 1<<64-1 {
		return only("error txid", s.shut(api.Broken))
	}
	done := s.holding(s.txid+1, s.hand)
	l := []outcome{{"ok", done.shut(api.Opened)}, {"error full", s.shut(api.Broken)}}
	if s.armed > 0 {
		l = append(l, outcome{"error dead", s.died()}, outcome{"error dead", done.died()})
	}
	return l
}

// works is what comes of a command on the pairs at hand.
func (s state) works(o order) (string, state) {
	b := s.counts
	if s.status == api.Working {
		b = s.hand
	}
	old, has := b[o.texts[0]]
	switch o.name {
	case "put":
		s.hand = b.with(o.texts[0], o.texts[1])
	case "delete":
		s.hand = b.without(o.texts[0])
		return noneIf(!has, "ok"), s
	case "get":
		return noneIf(!has, "value "+plainQuote(old)), s
	case "scan":
		return pairsTold(b.scan(o.texts[0], o.texts[1], o.number)), s
	}
	return "ok", s
}

// model is the states in which a store may be, as far as its answers have told.
type model []state

// hear leaves the states that an answer to a command leads to.
func (m model) hear(o order, answer string) model {
	if o.name == "counts" {
		return m
	}
	var next model
	for _, s := range m {
		for _, c := range s.outcomes(o) {
			if c.answer == answer && !slices.ContainsFunc(next, c.next.equals) {
				next = append(next, c.next)
			}
		}
	}
	return next
}

// follow holds answers against the model: each must be one that it has.
func (m model) follow(t *testing.T, l []order, answers []string) model {
	t.Helper()
	for i, o := range l {
		next := m.hear(o, answers[i])
		if len(next) == 0 {
			for _, s := range m {
				t.Logf("the status %d, dead %v, armed %d, holds %v, transaction %d, %d pairs, %d at hand", s.status, s.dead, s.armed, s.holds, s.txid, len(s.counts), len(s.hand))
			}
			t.Fatalf("command %d: %.80q: the answer %.80q is none that the model has", i, o, answers[i])
		}
		m = next
	}
	return m
}

// seen leaves the states whose store is the one on a disk; what a text's end leaves open is dropped, as by a failure of the power, and no arm waits any more.
func (m model) seen(t *testing.T, d disk) model {
	t.Helper()
	v := d.device(t)
	survey, fault := walk.Survey(v)
	var next model
	for _, s := range m {
		s = s.booted()
		s.armed = 0
		if s.holds == (fault == nil) && (!s.holds || s.txid == survey.Meta.Txid && maps.Equal(s.counts, d.content(t))) && !slices.ContainsFunc(next, s.equals) {
			next = append(next, s)
		}
	}
	if len(next) == 0 {
		t.Fatalf("what is durable is none that the model has: transaction %d, %d pairs, %v", survey.Meta.Txid, survey.Pairs, fault)
	}
	return next
}

// long is a key of 255 bytes.
func long(name string) string { return name + strings.Repeat("-", 255-len(name)) }

func longKey(i int) string { return long(fmt.Sprintf("k%04d", i)) }

// puts are orders that put so many pairs with long keys, from that number on.
func puts(from, n, size int) []order {
	var l []order
	for i := range n {
		l = append(l, put(longKey(from+i), strings.Repeat(string(rune('a'+from%26)), size)))
	}
	return l
}

// dels are orders that delete so many of these pairs.
func dels(from, n int) []order {
	var l []order
	for i := range n {
		l = append(l, del(longKey(from+i)))
	}
	return l
}

// work is a transaction of these orders.
func work(l ...order) []order { return row("begin", l, "commit") }

// anyFates are what a failure of the power may do to so many pending writes, and to some that are not there. No junk holds what makes a meta, so that P14.6's premise holds.
func anyFates(rnd *rand.Rand, pending int) []api.Fate {
	var l []api.Fate
	switch rnd.Intn(5) {
	case 0:
	case 1:
		for i := range pending {
			l = append(l, api.Fate{Index: i, Kind: api.FateKeep})
		}
	case 2:
		for i := range pending {
			l = append(l, api.Fate{Index: pending - 1 - i, Kind: api.FateTear, Cut: rnd.Intn(520)})
		}
	default:
		for range rnd.Intn(pending + 2) {
			l = append(l, api.Fate{Index: rnd.Intn(pending + 2), Kind: 1 + rnd.Intn(3)})
			if f := &l[len(l)-1]; f.Kind == api.FateTear {
				f.Cut, f.Junk = rnd.Intn(600), strings.Repeat("z: ", rnd.Intn(12))
			}
		}
	}
	return l
}
