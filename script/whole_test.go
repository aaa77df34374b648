package script_test

import (
	"fmt"
	"maps"
	"math/rand"
	"slices"
	"strings"
	"testing"

	"copse/api"
	"copse/branch"
	"copse/device"
	"copse/kv"
	"copse/leaf"
	"copse/meta"
	"copse/sheet"
	"copse/tree"
	"copse/walk"
)

// playOn plays what a writer makes up, text by text, each over what the one before has left, and holds all of it against the model.
func playOn(t *testing.T, w *writer, texts, bytes int, heard map[string]int) {
	t.Helper()
	d := zeros(w.guess.sectors)
	m := model{blankState(d.sectors)}
	for range texts {
		l := w.orders(bytes)
		answers, after := d.play(t, l)
		for i, o := range l {
			f := strings.Fields(answers[i])
			heard[o.name+": "+strings.Join(f[:min(2, len(f))], " ")]++
		}
		m = m.follow(t, l, answers).seen(t, after)
		d = after
		if s, err := walk.Survey(d.device(t)); err == nil {
			heard[fmt.Sprintf("%d levels", s.Depth)]++
		}
	}
}

func wantHeard(t *testing.T, heard map[string]int, kinds ...string) {
	t.Helper()
	for _, kind := range kinds {
		if heard[kind] < 3 {
			t.Errorf("%s was heard %d times", kind, heard[kind])
		}
	}
}

// sizes are how many sectors a device has in these tests: four pages and more, some with sectors that belong to no page.
var sizes = []int{32, 33, 40, 47, 48, 56, 64, 80, 101, 160, 320, 800, 2400}

func TestW1_TheModel(t *testing.T) {
	t.Parallel()
	rnd := rand.New(rand.NewSource(1))
	heard := map[string]int{}
	for round := range 5 * len(sizes) {
		playOn(t, newWriter(rnd, sizes[round%len(sizes)], false), 3, 30000, heard)
	}
	for range 4 {
		playOn(t, bigWriter(rnd, false), 8, 60000, heard)
	}
	playOn(t, newWriter(rnd, api.MaxSectors, false), 3, 30000, heard)
	wantHeard(t, heard,
		"format: ok", "format: error status", "open: ok", "open: error corrupt", "open: error status", "close: ok", "close: error status",
		"begin: ok", "begin: error status", "put: ok", "put: error arg", "put: error status", "delete: ok", "delete: none", "delete: error arg", "delete: error status",
		"get: none", "get: error arg", "get: error status", "scan: pairs 0", "scan: pairs 9", "scan: error arg", "scan: error status",
		"commit: ok", "commit: error full", "commit: error status", "rollback: ok", "rollback: error status", "status: status 3", "txid: txid 5", "0 levels", "1 levels", "2 levels", "3 levels")
	for kind := range heard {
		if strings.HasSuffix(kind, "error dead") {
			t.Errorf("%s was heard, and the power did not fail", kind)
		}
	}
}

func TestW2_Crashes(t *testing.T) {
	t.Parallel()
	rnd := rand.New(rand.NewSource(2))
	heard := map[string]int{}
	for round := range 8 * len(sizes) {
		playOn(t, newWriter(rnd, sizes[round%len(sizes)], true), 3, 30000, heard)
	}
	for range 6 {
		playOn(t, bigWriter(rnd, true), 8, 60000, heard)
	}
	wantHeard(t, heard,
		"format: ok", "format: error dead", "open: ok", "open: error corrupt", "open: error dead", "close: error dead", "begin: error dead", "put: error dead", "delete: error dead",
		"get: error dead", "scan: error dead", "scan: pairs 9", "commit: ok", "commit: error full", "commit: error dead", "rollback: error dead", "status: status 4", "txid: txid 5", "0 levels", "1 levels", "2 levels", "3 levels")
}

// shop is a disk on which a store lies.
type shop struct {
	name string
	disk
	txid uint64
	book book
}

// shops are stores of each depth, whose meta lies in either slot, with holes among their pages.
func shops(t *testing.T) []shop {
	t.Helper()
	one := work(put("a", "1"))
	var l []shop
	for _, s := range []struct {
		name    string
		sectors int
		texts   [][]order
	}{
		{"empty", 64, nil},
		{"empty, slot 1", 71, [][]order{work()}},
		{"one leaf, slot 1", 64, [][]order{one}},
		{"one leaf, slot 0", 64, [][]order{one, work(put("b", "2"))}},
		{"emptied", 64, [][]order{one, work(del("a"))}},
		{"two levels, slot 1", 8 * 60, [][]order{work(puts(0, 20, 600)...)}},
		{"two levels, slot 0", 8 * 60, [][]order{work(puts(0, 20, 600)...), work(puts(7, 3, 500)...)}},
		{"three levels, slot 0", 8 * 200, [][]order{work(puts(0, 60, 700)...), work(dels(13, 17)...)}},
		{"three levels, slot 1", 8 * 200, [][]order{work(puts(0, 60, 700)...), work(dels(30, 9)...), work(puts(50, 2, 9)...)}},
	} {
		made := shop{name: s.name, disk: zeros(s.sectors).built(t, row("format"))}
		for _, text := range s.texts {
			made.disk = made.built(t, row("open", text))
		}
		made.txid, made.book = uint64(len(s.texts)), made.content(t)
		l = append(l, made)
	}
	return l
}

// deepShop is a store of four levels.
func deepShop(t *testing.T) shop {
	t.Helper()
	d := zeros(8*600).built(t, row("format"))
	for i := range 7 {
		d = d.built(t, row("open", work(puts(60*(i*3%7), 60, 690)...)))
	}
	if s := d.survey(t); s.Depth != 4 {
		t.Fatalf("%d levels", s.Depth)
	}
	return shop{name: "four levels", disk: d, txid: 7, book: d.content(t)}
}

// job is what is done in a transaction.
type job struct {
	name   string
	orders []order
}

// jobs are changes of no, of one and of many nodes.
func jobs() []job {
	return []job{
		{"nothing", nil},
		{"one pair", []order{put("a", "2")}},
		{"the very pair", []order{put("a", "1")}},
		{"two far apart", row(puts(2, 1, 650), puts(40, 1, 650))},
		{"many", puts(0, 12, 300)},
		{"some go", dels(3, 9)},
		{"all go", row(dels(0, 60), del("a"), del("b"))},
		{"put and gone", []order{put("zz", "1"), del("zz")}},
	}
}

// done is the pairs behind a job.
func (b book) done(l []order) book {
	for _, o := range l {
		if o.name == "put" {
			b = b.with(o.texts[0], o.texts[1])
		} else {
			b = b.without(o.texts[0])
		}
	}
	return b
}

// written is how many pages and sectors beside them a text's last command has written, and how often it has synced.
func (d disk) written(t *testing.T, l []order) (pages, sectors, syncs int) {
	t.Helper()
	last := len(l) - 1
	answers, _ := d.play(t, row(l[:last], "counts", l[last:], "counts"))
	var counts [2][2]int
	for i, a := range []string{answers[last], answers[last+2]} {
		if n, err := fmt.Sscanf(a, "counts %d %d", &counts[i][0], &counts[i][1]); n != 2 || err != nil {
			t.Fatalf("%q: %v", a, err)
		}
	}
	n := counts[1][0] - counts[0][0]
	return n / 8, n % 8, counts[1][1] - counts[0][1]
}

// all is one fate for each of so many pending writes.
func all(pending int, f api.Fate) []api.Fate {
	var l []api.Fate
	for i := range pending {
		f.Index = i
		l = append(l, f)
	}
	return l
}

// failures are ways in which the power treats so many pending writes; the last ones make nothing whole.
func failures(pending int) [][]api.Fate {
	l := [][]api.Fate{
		all(pending, api.Fate{Kind: api.FateKeep}),
		all(pending, api.Fate{Kind: api.FateTear, Cut: 28}),
		all(pending, api.Fate{Kind: api.FateTear, Cut: 512, Junk: "z"}),
		nil,
		all(pending, api.Fate{Kind: api.FateDrop}),
		all(pending, api.Fate{Kind: api.FateTear}),
		all(pending, api.Fate{Kind: api.FateTear, Cut: 24}),
		all(pending, api.Fate{Kind: api.FateTear, Cut: 100, Junk: "z"}),
		all(pending, api.Fate{Kind: api.FateTear, Junk: "z"}),
		all(pending/2, api.Fate{Kind: api.FateKeep}),
	}
	slices.Reverse(l[0])
	return l
}

const wholeFailures = 3 // so many make a meta whole

// wantFound opens a disk several times, with failures in between, and holds what is found against a transaction and its pairs.
func (d disk) wantFound(t *testing.T, what string, txid uint64, b book) {
	t.Helper()
	found := func(txid uint64, b book) []string {
		return []string{"ok", fmt.Sprintf("txid %d", txid), pairsTold(b.scan("", "", 1000))}
	}
	look := row("open txid", scan("", "", 1000))
	l := row(look, "close", look, crash(api.Fate{Index: 0, Kind: api.FateKeep}), look, "boot", look, "begin", put("lost", "1"), "crash", look)
	want := slices.Concat(found(txid, b), say("ok"), found(txid, b), say("ok"), found(txid, b), say("ok"), found(txid, b), say("ok, ok, ok"), found(txid, b))
	answers, after := d.play(t, l)
	if !slices.Equal(answers, want) {
		t.Fatalf("%s: %.400q, want %.400q", what, answers, want)
	}
	if !after.equals(d) {
		t.Fatalf("%s: something was written by looking", what)
	}
	if txid == 1<<64-1 {
		return
	}
	answers, after = d.play(t, row("open", work(put("on", "1")), "boot", look))
	if want := found(txid+1, b.with("on", "1")); !slices.Equal(answers[5:], want) {
		t.Fatalf("%s: going on: %.400q, want %.400q", what, answers, want)
	}
	after.survey(t)
}

// Within a Commit: the pages, a sync, the meta, a sync. Up to the first sync the old state is there; behind the meta's write it hangs on that one's fate; behind the last sync the new one is there.
func TestW2_InEveryOperationOfACommit(t *testing.T) {
	t.Parallel()
	for _, s := range shops(t) {
		for _, j := range jobs() {
			text := row("open", work(j.orders...))
			if answers, _ := s.play(t, text); answers[len(answers)-1] != "ok" {
				continue
			}
			pages, _, _ := s.written(t, text)
			for k := range pages + 3 {
				pending := 8 * (k + 1)
				if k > pages {
					pending = 1
				}
				for i, fates := range failures(pending) {
					if len(s.book) > 9 && (k+i)%8 != 0 && (k < pages || len(j.orders) > 2) { // each is dear there
						continue
					}
					what := fmt.Sprintf("%s: %s: operation %d of %d, fates %d", s.name, j.name, k, pages+3, i)
					commit := len(text) - 1
					answers, after := s.play(t, row(text[:commit], arm(k, fates...), "commit status", get("a")))
					if !slices.Equal(answers[commit:], say("ok, error dead, status 4, error dead")) {
						t.Fatalf("%s: %q", what, answers[commit:])
					}
					if k == pages+2 || k == pages+1 && i < wholeFailures {
						after.wantFound(t, what, s.txid+1, s.book.done(j.orders))
					} else {
						after.wantFound(t, what, s.txid, s.book)
					}
				}
			}
		}
	}
}

// wantNone holds a disk on which no store lies against what the model has then.
func (d disk) wantNone(t *testing.T, what string) {
	t.Helper()
	answers, after := d.play(t, row("open status boot open crash open format open txid", scan("", "", 9)))
	if !slices.Equal(answers, say("error corrupt, status 0, ok, error corrupt, ok, error corrupt, ok, ok, txid 0, pairs 0")) {
		t.Fatalf("%s: %q", what, answers)
	}
	after.wantFound(t, what, 0, book{})
}

// Within a Format: the slot that does not count is wiped, a sync, the other one is, a sync, the meta, a sync.
func TestW2_InEveryOperationOfAFormat(t *testing.T) {
	t.Parallel()
	blanks := []shop{{name: "zeros", disk: zeros(64)}, {name: "zeros with a page", disk: disk{64, []api.Sector{{Index: 16, Data: full('x')}}}}}
	for _, s := range slices.Concat(shops(t), blanks) {
		for k := range 6 {
			for i, fates := range failures(1) {
				for _, ahead := range []string{"open", ""} {
					what := fmt.Sprintf("%s: operation %d, fates %d", s.name, k, i)
					answers, after := s.play(t, row(ahead, arm(k, fates...), "format status", get("a")))
					if !slices.Equal(answers[len(answers)-3:], say("error dead, status 4, error dead")) {
						t.Fatalf("%s: %q", what, answers)
					}
					wiped := i < wholeFailures || fates != nil && fates[0].Kind == api.FateTear // what is torn there is none
					switch {
					case k == 5 || k == 4 && i < wholeFailures:
						after.wantFound(t, what, 0, book{})
					case k < 2 && s.book != nil || k == 2 && !wiped && s.book != nil:
						after.wantFound(t, what, s.txid, s.book)
					default:
						after.wantNone(t, what)
					}
				}
			}
		}
	}
}

// wantOpenedAsWalked holds the opening of a disk against what layer 11 says of it; whether it holds a store.
func (d disk) wantOpenedAsWalked(t *testing.T, what string) bool {
	t.Helper()
	v := d.device(t)
	survey, fault := walk.Survey(v)
	since, _, _ := v.Counts()
	if err := kv.New(v).Open(); err != fault {
		t.Fatalf("%s: Open = %v, want %v", what, err, fault)
	}
	if now, written, syncs := v.Counts(); now-since > d.sectors/8*8 || written != 0 || syncs != 0 {
		t.Fatalf("%s: %d sectors read, %d written, %d syncs", what, now-since, written, syncs)
	}
	m := model{blankState(d.sectors)}
	if fault == nil {
		m[0] = m[0].holding(survey.Meta.Txid, d.content(t))
	} else if fault != api.ErrCorrupt {
		t.Fatalf("%s: %v", what, fault)
	}
	look := row("open status txid", scan("", "", 1000), "counts")
	answers, after := d.play(t, look)
	m.follow(t, look, answers)
	if answers[4] != "counts 0 0" || !slices.Equal(after.list, v.Durable()) {
		t.Fatalf("%s: %s", what, answers[4])
	}
	on := row("open", work(put("a", "1"), put("b", strings.Repeat("v", 700)), del("k0003")), scan("", "", 1000), "close open", work(del("a")), "boot open txid", scan("", "", 1000), "format open", work(put("c", "2")), scan("", "", 9))
	answers, after = d.play(t, on)
	m.follow(t, on, answers).seen(t, after)
	return fault == nil
}

func TestW3_AnyImage(t *testing.T) {
	t.Parallel()
	rnd := rand.New(rand.NewSource(3))
	stores, others := 0, 0
	for _, s := range shops(t) {
		for range 40 {
			d := disk{s.sectors, slices.Clone(s.list)}
			for range rnd.Intn(3) {
				d.list = spoilt(rnd, d.list)
			}
			if d.wantOpenedAsWalked(t, s.name) {
				stores++
			} else {
				others++
			}
		}
		for _, sectors := range []int{s.sectors - 8, s.sectors/8*8 + 7, s.sectors + 8} {
			l := slices.DeleteFunc(slices.Clone(s.list), func(x api.Sector) bool { return x.Index >= sectors })
			if is := (disk{sectors, l}).wantOpenedAsWalked(t, s.name); is != (sectors/8 == s.sectors/8) {
				t.Errorf("%s on %d sectors: a store: %v", s.name, sectors, is)
			}
		}
	}
	if stores < 50 || others < 50 {
		t.Errorf("%d stores, and %d that are none", stores, others)
	}
	for _, sectors := range []int{0, 1, 7, 31, 32, 40, 100, api.MaxSectors} {
		if zeros(sectors).wantOpenedAsWalked(t, "zeros") {
			t.Errorf("%d sectors of zeros are a store", sectors)
		}
		var l []api.Sector
		for i := range min(sectors, 100) {
			p := make([]byte, 512)
			rnd.Read(p)
			l = append(l, api.Sector{Index: i, Data: string(p)})
		}
		disk{sectors, l}.wantOpenedAsWalked(t, "any bytes")
	}
}

// What chapter 11 names, laid by hand on five pages: the meta that counts, and its tree.
func TestW3_LaidByHand(t *testing.T) {
	leafOf := func(id int, txid uint64, size int, keys ...string) api.Sheet {
		var l []api.Pair
		for _, k := range keys {
			l = append(l, api.Pair{Key: k, Value: strings.Repeat("v", size)})
		}
		body, err := leaf.Encode(l)
		must(t, err)
		return api.Sheet{Kind: api.KindLeaf, ID: id, Txid: txid, Count: len(l), Body: body}
	}
	branchOf := func(id int, first int, key string, second int) api.Sheet {
		body, err := branch.Encode(api.Branch{First: first, Links: []api.Link{{Key: key, Child: second}}})
		must(t, err)
		return api.Sheet{Kind: api.KindBranch, ID: id, Txid: 1, Count: 2, Body: body}
	}
	for what, c := range map[string]struct {
		meta  api.Meta
		pages []api.Sheet
		want  string
	}{
		"no root":            {api.Meta{Pages: 5, Txid: 9}, nil, "pairs 0"},
		"a leaf":             {api.Meta{Pages: 5, Root: 2, Txid: 1}, []api.Sheet{leafOf(2, 1, 1, "a")}, "pairs 1 a v"},
		"an older leaf":      {api.Meta{Pages: 5, Root: 2, Txid: 9}, []api.Sheet{leafOf(2, 8, 1, "a")}, "pairs 1 a v"},
		"a younger leaf":     {api.Meta{Pages: 5, Root: 2, Txid: 9}, []api.Sheet{leafOf(2, 10, 1, "a")}, ""},
		"transaction 0":      {api.Meta{Pages: 5, Root: 2, Txid: 9}, []api.Sheet{leafOf(2, 0, 1, "a")}, ""},
		"no page":            {api.Meta{Pages: 5, Root: 2, Txid: 9}, nil, ""},
		"other pages":        {api.Meta{Pages: 4, Root: 2, Txid: 1}, []api.Sheet{leafOf(2, 1, 1, "a")}, ""},
		"two leaves":         {api.Meta{Pages: 5, Root: 2, Txid: 1}, []api.Sheet{branchOf(2, 3, "m", 4), leafOf(3, 1, 640, "a", "b", "c"), leafOf(4, 1, 640, "m", "n", "o")}, "pairs 6"},
		"a page twice":       {api.Meta{Pages: 5, Root: 2, Txid: 1}, []api.Sheet{branchOf(2, 3, "m", 2), leafOf(3, 1, 640, "a", "b", "c")}, ""},
		"too little in one":  {api.Meta{Pages: 5, Root: 2, Txid: 1}, []api.Sheet{branchOf(2, 3, "m", 4), leafOf(3, 1, 640, "a", "b", "c"), leafOf(4, 1, 640, "m", "n")}, ""},
		"a key out of place": {api.Meta{Pages: 5, Root: 2, Txid: 1}, []api.Sheet{branchOf(2, 3, "m", 4), leafOf(3, 1, 640, "a", "b", "m"), leafOf(4, 1, 640, "m", "n", "o")}, ""},
		"a page outside":     {api.Meta{Pages: 5, Root: 2, Txid: 1}, []api.Sheet{branchOf(2, 3, "m", 5), leafOf(3, 1, 640, "a", "b", "c")}, ""},
	} {
		v := device.New(8 * c.meta.Pages)
		must(t, meta.Store(v, c.meta))
		for _, s := range c.pages {
			must(t, sheet.Store(v, s))
		}
		must(t, v.Sync())
		d := disk{40, v.Durable()}
		if is := d.wantOpenedAsWalked(t, what); is != (c.want != "") {
			t.Errorf("%s: a store: %v", what, is)
		}
		if answers, _ := d.play(t, row("open", scan("", "", 9))); c.want != "" && !strings.HasPrefix(answers[1], c.want) {
			t.Errorf("%s: %q", what, answers)
		}
	}
}

// spoilt is the sectors with a byte changed, one left out, one cut short, or two the other way round.
func spoilt(rnd *rand.Rand, l []api.Sector) []api.Sector {
	if len(l) == 0 {
		return l
	}
	i, j := rnd.Intn(len(l)), rnd.Intn(len(l))
	data := []byte(l[i].Data)
	switch rnd.Intn(4) {
	case 0:
		data[rnd.Intn(512)] ^= byte(1 << rnd.Intn(8))
	case 1:
		return slices.Delete(l, i, i+1)
	case 2:
		clear(data[rnd.Intn(512):])
	case 3:
		l[j].Data, data = l[i].Data, []byte(l[j].Data)
	}
	l[i].Data = string(data)
	return l
}

// mostPairs is how many pairs there may be on so many pages without ErrFull.
func mostPairs(pages int) int { return (7*pages - 24) / 8 }

// There are no more keys than pairs that there is room for, so whatever the script does, and wherever the power fails, no commit is refused.
func TestW4_Room(t *testing.T) {
	t.Parallel()
	rnd := rand.New(rand.NewSource(4))
	for pages := 4; pages < 110; pages += 1 + pages/8 {
		heard := map[string]int{}
		for _, power := range []bool{false, true} {
			for _, make := range []func(i int) string{longKey, func(i int) string { return fmt.Sprint(i) }} {
				w := newWriter(rnd, 8*pages+rnd.Intn(8), power)
				w.values, w.keys, w.strict = 700, nil, true
				for i := range mostPairs(pages) {
					w.keys = append(w.keys, make(i))
				}
				playOn(t, w, 4, 50000, heard)
			}
		}
		if heard["commit: error full"] > 0 || heard["commit: ok"] == 0 {
			t.Errorf("%d pages, %d pairs: %v", pages, mostPairs(pages), heard)
		}
	}
}

// The fullest trees of so many pairs, laid out by long keys, all of them made anew in one transaction, and again, with the power failing in between.
func TestW4_AllAnew(t *testing.T) {
	t.Parallel()
	for pages := 4; pages < 80; pages += 1 + pages/12 {
		n := mostPairs(pages)
		d := zeros(8*pages).built(t, row("format"))
		for i := range 6 {
			again := work(puts(0, n, 700-350*(i%2))...)
			if i%3 == 2 { // the commit that failed takes no room
				_, d = d.play(t, row("open", again[:len(again)-1], arm(0, all(8, api.Fate{Kind: api.FateKeep})...), "commit"))
			}
			d = d.built(t, row("open", again))
			d = d.built(t, row("open begin", dels(0, n/2), puts(0, n/2, 10), "commit"))
			if s := d.survey(t); len(s.Pages) > (4*n+5)/7 {
				t.Fatalf("%d pairs in %d pages", n, len(s.Pages))
			}
		}
	}
}

// In a text in which a close and an open are put in wherever the store is open and no transaction is, the other answers are the same, and so is what is durable.
func TestW5_ToReopenIsNotSeen(t *testing.T) {
	t.Parallel()
	rnd := rand.New(rand.NewSource(5))
	times := 0
	for round := range 8 * len(sizes) {
		w := newWriter(rnd, sizes[round%len(sizes)], round%2 == 0)
		if round%20 == 7 {
			w = bigWriter(rnd, round%40 == 7)
		}
		d := zeros(w.guess.sectors)
		for range 4 {
			l := w.orders(30000)
			asked := row("status")
			for _, o := range l {
				asked = append(asked, o, plain("status"))
			}
			answers, after := d.play(t, asked)
			var again []order
			var want []string
			for i, o := range asked {
				again, want = append(again, o), append(want, answers[i])
				if answers[i] == "status 1" && rnd.Intn(4) > 0 {
					again, want = append(again, row("close open")...), append(want, "ok", "ok")
					times++
				}
			}
			if len(textOf(again)) > api.MaxText {
				continue
			}
			got, end := d.play(t, again)
			if !slices.Equal(got, want) {
				t.Fatalf("%d sectors: other answers", d.sectors)
			}
			if !end.equals(after) {
				t.Fatalf("%d sectors: other bytes are durable", d.sectors)
			}
			d = after
		}
	}
	if times < 300 {
		t.Errorf("opened anew %d times", times)
	}
}

// wantUntouched holds the pages of a store and its slot against what they were.
func (s shop) wantUntouched(t *testing.T, what string, after disk) {
	t.Helper()
	survey := s.survey(t)
	sectors := []int{8 * survey.Slot}
	for _, id := range survey.Pages {
		for i := range 8 {
			sectors = append(sectors, 8*id+i)
		}
	}
	for _, i := range sectors {
		if after.sector(i) != s.sector(i) {
			t.Fatalf("%s: sector %d was written over", what, i)
		}
	}
}

// What a commit has written and not synced becomes junk where the power fails: so it is seen which sectors those are.
func TestW6_NothingThatCountsIsWrittenOver(t *testing.T) {
	t.Parallel()
	for _, s := range slices.Concat(shops(t), []shop{deepShop(t)}) {
		for _, j := range jobs() {
			what := s.name + ": " + j.name
			text := row("open", work(j.orders...))
			answers, after := s.play(t, text)
			if answers[len(text)-1] != "ok" {
				continue
			}
			s.wantUntouched(t, what, after)
			pages, _, _ := s.written(t, text)
			for k := range pages + 3 {
				commit := len(text) - 1
				junk := all(8*(k+1), api.Fate{Kind: api.FateTear, Junk: "junk"})
				_, after := s.play(t, row(text[:commit], arm(k, junk...), "commit boot open", work(put("on", "1")), "boot open"))
				if k <= pages {
					s.wantUntouched(t, what, after)
				}
				_, after = s.play(t, row(text[:commit], arm(k, junk...), "commit"))
				if k <= pages+1 {
					s.wantUntouched(t, what, after)
				}
				idle := 8 * (1 - s.survey(t).Slot)
				if k <= pages && after.sector(idle) != s.sector(idle) {
					t.Fatalf("%s: operation %d has written a meta", what, k)
				}
			}
		}
	}
}

// newPages are those that a store has and an older one had not.
func newPages(t *testing.T, old, now disk) []int {
	t.Helper()
	was := old.survey(t).Pages
	return slices.DeleteFunc(now.survey(t).Pages, func(id int) bool { return slices.Contains(was, id) })
}

// lowestFree are the lowest pages that a store's tree does not reach.
func lowestFree(t *testing.T, d disk, n int) []int {
	t.Helper()
	taken := d.survey(t).Pages
	var l []int
	for id := 2; len(l) < n && id < d.sectors/8; id++ {
		if !slices.Contains(taken, id) {
			l = append(l, id)
		}
	}
	return l
}

// anyJob is some changes of pairs with long keys.
func anyJob(rnd *rand.Rand, keys int) []order {
	var l []order
	for range rnd.Intn(12) {
		from, n := rnd.Intn(keys), 1+rnd.Intn(5)
		if rnd.Intn(5) < 2 {
			l = append(l, dels(from, n)...)
		} else {
			l = append(l, puts(from, n, rnd.Intn(701))...)
		}
	}
	return l
}

// wantLowestTaken holds the pages that a store has taken against the lowest that were free: how many they are.
func wantLowestTaken(t *testing.T, old, now disk) int {
	t.Helper()
	taken := newPages(t, old, now)
	if want := lowestFree(t, old, len(taken)); !slices.Equal(taken, want) {
		t.Fatalf("the pages %v were taken, want %v", taken, want)
	}
	return len(taken)
}

// strewn is a disk on which a commit that came to nothing has left pages that are nobody's.
func strewn(t *testing.T, rnd *rand.Rand, d disk, keys int) disk {
	t.Helper()
	fates := all(24, api.Fate{Kind: api.FateKeep})
	_, failed := d.play(t, row("open begin", anyJob(rnd, keys), arm(rnd.Intn(2), fates...), "commit"))
	if failed.survey(t).Meta != d.survey(t).Meta {
		return d
	}
	return failed
}

// Each commit takes the lowest pages that the tree ahead of it does not reach, whatever was written there, however many commits have failed, and whether the store was opened in between or not.
func TestW7_NoSpaceIsLost(t *testing.T) {
	t.Parallel()
	rnd := rand.New(rand.NewSource(7))
	ends := []string{"rollback", "close open", "commit", "commit", "commit"}
	for _, sectors := range []int{64, 100, 200, 400, 1000} {
		keys := sectors / 8
		d := zeros(sectors).built(t, row("format"))
		taken := 0
		for range 30 {
			d = strewn(t, rnd, d, keys)
			now, text := d, row("open")
			for range 1 + rnd.Intn(4) {
				text = row(text, "begin", anyJob(rnd, keys), ends[rnd.Intn(len(ends))])
				answers, after := d.play(t, text)
				if answers[len(text)-1] == "error full" {
					text = row(text, "rollback")
				}
				taken += wantLowestTaken(t, now, after)
				now = after
			}
			d = now
		}
		if taken < sectors/8 {
			t.Errorf("%d sectors: %d pages were taken", sectors, taken)
		}
	}
}

// A commit is refused for want of room just if the changed nodes are more than the free pages; then, and where there is no number, nothing is written, and what is left is Rollback and Close.
func TestW8_RefusalsHaveReasons(t *testing.T) {
	t.Parallel()
	rnd := rand.New(rand.NewSource(8))
	told := map[string]int{}
	for round := range 60 {
		pages := 4 + rnd.Intn(30)
		d := zeros(8*pages).built(t, row("format"))
		for range 12 {
			l := row(anyJob(rnd, 3*pages), anyJob(rnd, 3*pages))
			s := d.survey(t)
			r := tree.Open(d.device(t), s.Meta)
			for _, o := range l {
				if o.name == "put" {
					must(t, r.Put(o.texts[0], o.texts[1]))
				} else if _, err := r.Delete(o.texts[0]); err != nil {
					t.Fatal(err)
				}
			}
			want := "ok"
			if r.Changed() > pages-2-len(s.Pages) {
				want = "error full"
			}
			text := row("open", work(l...), "status txid", get("a"), "begin open format", put("a", "1"), del("a"), "commit rollback status", scan("", "", 1000))
			commit := len(l) + 2
			answers, after := d.play(t, text)
			if answers[commit] != want {
				t.Fatalf("round %d: %d changed nodes, %d free pages: %s", round, r.Changed(), pages-2-len(s.Pages), answers[commit])
			}
			told[want]++
			if want == "ok" {
				d = after
				continue
			}
			refused := append([]string{"status 3", fmt.Sprintf("txid %d", s.Meta.Txid)}, say("error status, error status, error status, error status, error status, error status, error status, ok, status 1")...)
			refused = append(refused, pairsTold(d.content(t).scan("", "", 1000)))
			if !slices.Equal(answers[commit+1:], refused) || !after.equals(d) {
				t.Fatalf("behind it: %.300q, want %.300q", answers[commit+1:], refused)
			}
		}
	}
	if told["ok"] < 100 || told["error full"] < 100 {
		t.Errorf("what was told is %v", told)
	}
}

func TestW8_NoNumber(t *testing.T) {
	for _, txid := range []uint64{1<<64 - 3, 1<<64 - 2, 1<<64 - 1} {
		v := device.New(64)
		must(t, meta.Store(v, api.Meta{Pages: 8, Txid: txid}))
		must(t, v.Sync())
		d := disk{64, v.Durable()}
		m := model{blankState(64).holding(txid, book{})}
		l := row("open")
		for i := range 4 {
			l = row(l, work(put("a", fmt.Sprint(i))), "status txid", get("a"), "rollback", get("a"))
		}
		answers, after := d.play(t, l)
		m.follow(t, l, answers).seen(t, after)
		if n := len(slices.DeleteFunc(answers, func(a string) bool { return a != "error txid" })); n != 4-int(1<<64-1-txid) {
			t.Errorf("from %d on: %d times without a number", txid, n)
		}
	}
}

// Behind each text: the tree's pairs are the map's, and it is as full and as deep as it may be, as layer 11 says (survey has an error else).
func TestW9_TheTree(t *testing.T) {
	t.Parallel()
	rnd := rand.New(rand.NewSource(9))
	depths := map[int]int{}
	for _, s := range slices.Concat(shops(t), []shop{deepShop(t)}) {
		d, b := s.disk, s.book
		for range 15 {
			l := anyJob(rnd, 60)
			if len(b) > 100 {
				l = row(l, dels(rnd.Intn(420), 60))
			}
			answers, after := d.play(t, row("open", work(l...)))
			if answers[len(answers)-1] != "ok" {
				continue
			}
			b, d = b.done(l), after
			survey := d.survey(t)
			depths[survey.Depth]++
			if c := d.content(t); !maps.Equal(c, b) || survey.Pairs != len(b) || survey.Depth > 8 {
				t.Fatalf("%s: %d pairs at %d levels, want %d", s.name, len(c), survey.Depth, len(b))
			}
		}
	}
	for depth := 1; depth <= 4; depth++ {
		if depths[depth] == 0 {
			t.Errorf("no tree of %d levels: %v", depth, depths)
		}
	}
}

// Of each command of a text: how many sectors it writes, and how often it syncs.
func TestW13_WhatACommitWrites(t *testing.T) {
	t.Parallel()
	rnd := rand.New(rand.NewSource(13))
	most := 0
	for round := range 5 * len(sizes) {
		w := newWriter(rnd, sizes[round%len(sizes)], false)
		if round%20 == 7 {
			w = bigWriter(rnd, false)
		}
		d := zeros(w.guess.sectors)
		for range 4 {
			var l []order
			for _, o := range w.orders(30000) {
				l = append(l, o, plain("counts"))
			}
			answers, after := d.play(t, l)
			changes := 0
			var was [2]int
			for i := 0; i < len(l); i += 2 {
				var now [2]int
				if _, err := fmt.Sscanf(answers[i+1], "counts %d %d", &now[0], &now[1]); err != nil {
					t.Fatal(err)
				}
				sectors, syncs := now[0]-was[0], now[1]-was[1]
				wantWritten(t, l[i], answers[i], sectors, syncs, changes)
				switch name := l[i].name; {
				case strings.HasPrefix(answers[i], "error"):
				case name == "begin":
					changes = 0
				case name == "put", name == "delete":
					changes++
				}
				most, was = max(most, sectors), now
			}
			d = after
		}
	}
	if most < 8*10 {
		t.Errorf("no commit has written more than %d sectors", most)
	}
}

func wantWritten(t *testing.T, o order, answer string, sectors, syncs, changes int) {
	t.Helper()
	isRight := sectors == 0 && syncs == 0
	switch {
	case answer != "ok":
	case o.name == "format":
		isRight = sectors == 3 && syncs == 3
	case o.name == "commit":
		isRight = sectors%8 == 1 && sectors <= 8*18*changes+1 && syncs == 2
	}
	if !isRight {
		t.Fatalf("%.60v: %s: %d sectors were written, %d syncs, behind %d changes", o, answer, sectors, syncs, changes)
	}
}

// One change in a deep tree, each in a transaction of its own.
func TestW13_OneChange(t *testing.T) {
	t.Parallel()
	s := deepShop(t)
	most := 0
	for i := 0; i < 420; i += 7 {
		for _, l := range [][]order{puts(i, 1, 0), puts(i, 1, 700), dels(i, 1), {put(longKey(i)[:254], strings.Repeat("v", 700))}, {get("a")}} {
			pages, sectors, syncs := s.written(t, row("open", work(l...)))
			if pages > 18 || sectors != 1 || syncs != 2 || l[0].name == "get" && pages > 0 {
				t.Fatalf("%.40v: %d pages and %d sectors were written, %d syncs", l[0], pages, sectors, syncs)
			}
			most = max(most, pages)
		}
	}
	if most < 5 {
		t.Errorf("no more than %d pages", most)
	}
}

// The examples of DOC.md that are scripts, one behind the other over eight pages.
func TestExamplesOfTheWhole(t *testing.T) {
	d := zeros(64).wantAnswers(t, lines("open", "format", "open", "txid"), say("error corrupt, ok, ok, txid 0")...)
	if len(d.list) != 1 || d.list[0].Index != 0 || d.survey(t).Meta != (api.Meta{Pages: 8}) {
		t.Errorf("1: %d sectors, %v", len(d.list), d.survey(t).Meta)
	}
	d = zeros(64).wantAnswers(t, lines("format", "open", "begin", "put b 2", "put a 1", "commit", `scan "" "" 9`, "txid"), say("ok, ok, ok, ok, ok, ok, pairs 2 a 1 b 2, txid 1")...)
	wantTree := func(what string, root int, txid uint64) {
		t.Helper()
		if s := d.survey(t); s.Meta != (api.Meta{Pages: 8, Root: root, Txid: txid}) || !slices.Equal(s.Pages, []int{root}) || s.Slot != int(txid%2) {
			t.Errorf("%s: %v", what, s)
		}
	}
	wantTree("2", 2, 1)
	d = d.wantAnswers(t, "open\nbegin\nput a 3\ncommit", say("ok, ok, ok, ok")...)
	wantTree("3", 3, 2)
	if after := d.built(t, row("open", work(put("a", "4")))); after.survey(t).Meta.Root != 2 {
		t.Errorf("3: the next one: %v", after.survey(t))
	}
	d.wantAnswers(t, "open\nbegin\nput a 9\nrollback\nget a", say("ok, ok, ok, ok, value 3")...)
	five := lines("open", "begin", "put a 9", "ARM", "commit", "get a", "boot", "open", "get a", "txid")
	for arm, want := range map[string]string{"arm 1": "value 3, txid 2", "arm 2 keep=0": "value 9, txid 3", "arm 2 tear=0:24:": "value 3, txid 2"} {
		d.wantAnswers(t, strings.Replace(five, "ARM", arm, 1), slices.Concat(say("ok, ok, ok, ok, error dead, error dead, ok, ok"), say(want))...)
	}
	oks := slices.Repeat([]string{"ok"}, 42)
	d.wantAnswers(t, lines("open", "begin", textOf(puts(0, 40, 700)), "commit", "get a", "rollback", "get a"), slices.Concat(oks, say("error full, error status, ok, value 3"))...)
	d.wantAnswers(t, "arm 1\nformat\nboot\nopen\nget a", say("ok, error dead, ok, ok, value 3")...)
	d.wantAnswers(t, "arm 3\nformat\nboot\nopen", say("ok, error dead, ok, error corrupt")...)
	for i, x := range d.list {
		if x.Index == 24 {
			d.list[i].Data = x.Data[:10] + string([]byte{x.Data[10] ^ 1}) + x.Data[11:]
		}
	}
	d.wantAnswers(t, "open", "error corrupt")
}
