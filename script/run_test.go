package script_test

import (
	"fmt"
	"math/rand"
	"slices"
	"strings"
	"testing"
	"unsafe"

	"copse/api"
	"copse/device"
	"copse/meta"
	"copse/script"
)

// wantAnswers plays a text and holds its answers against those that it should have.
func (d disk) wantAnswers(t *testing.T, text string, want ...string) disk {
	t.Helper()
	answers, after := d.playText(t, text)
	if !slices.Equal(answers, want) {
		t.Errorf("%.400q:\n got %.400q\nwant %.400q", text, answers, want)
	}
	return after
}

// lines is a text with a line for each of these.
func lines(l ...string) string { return strings.Join(l, "\n") }

// say is words parted by commas.
func say(list string) []string { return strings.Split(list, ", ") }

func wantRefused(t *testing.T, what string, want error, sectors int, l []api.Sector, text string) {
	t.Helper()
	answers, list, err := script.Run(sectors, l, text)
	if answers != nil || list != nil || err != want {
		t.Errorf("%s: %q, %d sectors, %v, want %v", what, answers, len(list), err, want)
	}
}

func full(b byte) string { return strings.Repeat(string([]byte{b}), 512) }

func TestP15_3_LongTexts(t *testing.T) {
	most := strings.Repeat("#", 65536)
	zeros(32).wantAnswers(t, most)
	wantRefused(t, "65537 bytes", api.ErrMany, 32, nil, most+"#")
	wantRefused(t, "a long text", api.ErrMany, 32, nil, strings.Repeat(most, 9))
	wantRefused(t, "a long text of nothing", api.ErrMany, 32, nil, strings.Repeat("\n", 65537))
	wantRefused(t, "a long text, and a sector outside", api.ErrMany, 1, []api.Sector{{Index: 1, Data: full('x')}}, most+"\n")
	text := strings.Repeat("status\n", 65536/7)
	text += strings.Repeat(" ", 65536-len(text))
	if answers, _ := zeros(0).playText(t, text); len(answers) != 65536/7 {
		t.Errorf("%d answers", len(answers))
	}
	wantRefused(t, "a blank more", api.ErrMany, 0, nil, text+" ")
}

func TestP15_3_RefusalsOfTheDevice(t *testing.T) {
	for what, c := range map[string]struct {
		sectors int
		list    []api.Sector
	}{
		"a sector outside":        {1, []api.Sector{{Index: 1, Data: full('x')}}},
		"a sector far outside":    {32, []api.Sector{{Index: 1 << 60, Data: full('x')}}},
		"a sector below":          {32, []api.Sector{{Index: -1, Data: full('x')}}},
		"a sector twice":          {32, []api.Sector{{Index: 1, Data: full('x')}, {Index: 1, Data: full('x')}}},
		"falling sectors":         {32, []api.Sector{{Index: 2, Data: full('x')}, {Index: 1, Data: full('x')}}},
		"too few bytes":           {32, []api.Sector{{Index: 1, Data: full('x')[1:]}}},
		"too many bytes":          {32, []api.Sector{{Index: 1, Data: full('x') + "x"}}},
		"no bytes":                {32, []api.Sector{{Index: 1}}},
		"no sectors, and one":     {0, []api.Sector{{Index: 0, Data: full('x')}}},
		"below none, and one":     {-5, []api.Sector{{Index: 0, Data: full('x')}}},
		"behind the last of all":  {1 << 40, []api.Sector{{Index: api.MaxSectors, Data: full('x')}}},
		"the second out of place": {32, []api.Sector{{Index: 1, Data: full('x')}, {Index: 32, Data: full('x')}}},
	} {
		for _, text := range []string{"", "format", "jump\n"} {
			wantRefused(t, what, api.ErrArg, c.sectors, c.list, text)
		}
	}
}

func TestP15_3_Lines(t *testing.T) {
	for text, want := range map[string]string{
		"":                             "",
		"\n":                           "",
		"\n\n\n":                       "",
		"   ":                          "",
		"  \n \n":                      "",
		"#":                            "",
		"#\n":                          "",
		"# status\n#\"\n#\t\x00\xff\n": "",
		"status":                       "status 0",
		"status\n":                     "status 0",
		"status\n\n":                   "status 0",
		"\nstatus":                     "status 0",
		"\n\n  \n  status  \n \n":      "status 0",
		"status\ntxid":                 "status 0, txid 0",
		"status\n# txid\ntxid\n#":      "status 0, txid 0",
		"status\n\ntxid\n\nstatus":     "status 0, txid 0, status 0",
		" # txid":                      "error text",
		" #\nstatus":                   "error text, status 0",
		"\"#\"":                        "error text",
		"\"# status\"":                 "error text",
		"status #":                     "error short",
		"\"\"":                         "error text",
		"\t":                           "error text",
		"\t\nstatus":                   "error text, status 0",
		"status\r\ntxid\r":             "error text, error text",
		"\r\n":                         "error text",
		"\x00":                         "error text",
		"status\n\"":                   "status 0, error text",
		"\"status\"":                   "status 0",
		"\"\\x73tatus\" ":              "status 0",
		"Status\nSTATUS\nstatu\nstatuss\nstatus\x7f": "error text, error text, error text, error text, error text",
	} {
		want := say(want)
		if want[0] == "" {
			want = nil
		}
		zeros(32).wantAnswers(t, text, want...)
	}
}

// What is durable at the end is what device.Durable says, however the text ends.
func TestP15_3_Durable(t *testing.T) {
	list := []api.Sector{{Index: 3, Data: full('x')}, {Index: 5, Data: full(0)}, {Index: 20, Data: full('y')}}
	for _, text := range []string{"", "open", "crash keep=0\nboot\nstatus"} {
		_, after := disk{32, list}.playText(t, text)
		if want := []api.Sector{list[0], list[2]}; !slices.Equal(after.list, want) {
			t.Errorf("%q: other sectors are durable: %d", text, len(after.list))
		}
	}
	_, after := disk{32, list}.playText(t, "format")
	m, err := meta.Encode(api.Meta{Pages: 4})
	must(t, err)
	if want := []api.Sector{{Index: 0, Data: string(m)}, list[0], list[2]}; !slices.Equal(after.list, want) {
		t.Errorf("format: other sectors are durable: %d", len(after.list))
	}
	for rest, isSame := range map[string]bool{"": true, "rollback": true, "close": true, "arm 0\ncommit": true, "arm 0 keep=3\ncommit": true, "arm 0 keep=0\ncommit": false, "arm 1\ncommit": false} {
		_, end := after.playText(t, "open\nbegin\nput a 1\n"+rest) // of the leaf's sectors the first alone is not all zero
		if end.equals(after) != isSame {
			t.Errorf("%q: the same is durable: %v", rest, !isSame)
		}
		end.wantAnswers(t, "open\nget a", "ok", "none")
	}
}

// A device without sectors, one too small for a store, and the greatest one.
func TestP15_3_Devices(t *testing.T) {
	for _, sectors := range []int{-1 << 62, -1, 0, 1, 31} {
		zeros(sectors).wantAnswers(t, lines("format", "open", "close", "status", "counts"), say("error arg, error corrupt, error status, status 0, counts 0 0")...)
	}
	for _, sectors := range []int{32, api.MaxSectors, 1 << 62} {
		d := zeros(sectors).wantAnswers(t, lines("format", "open", "begin", "put a 1", "commit", "txid"), say("ok, ok, ok, ok, ok, txid 1")...)
		d.wantAnswers(t, "open\nget a", "ok", "value 1")
	}
}

// arguments says how many each command takes, and whether it may be more.
var arguments = map[string]struct {
	n    int
	more bool
}{
	"format": {}, "open": {}, "close": {}, "begin": {}, "commit": {}, "rollback": {},
	"put": {n: 2}, "delete": {n: 1}, "get": {n: 1}, "scan": {n: 3}, "status": {}, "txid": {}, "counts": {},
	"crash": {more: true}, "arm": {n: 1, more: true}, "boot": {},
}

// Of each command each number of arguments: arguments that are none (x is no number and no fate) are not looked at where there are too few or too many.
func TestP15_4_HowManyArguments(t *testing.T) {
	for name, c := range arguments {
		for n := range 6 {
			for _, word := range []string{"x", `""`, "1"} {
				answers, _ := zeros(32).playText(t, name+strings.Repeat(" "+word, n))
				if len(answers) != 1 {
					t.Fatalf("%s with %d: %q", name, n, answers)
				}
				isShort := n < c.n || n > c.n && !c.more
				if isShort != (answers[0] == "error short") {
					t.Errorf("%s with %d arguments: %s", name, n, answers[0])
				}
				zeros(32).wantAnswers(t, name+strings.Repeat(" "+word, n)+" \"", "error text")
				zeros(32).wantAnswers(t, name+"s"+strings.Repeat(" "+word, n), "error text")
				zeros(32).wantAnswers(t, `"`+name+` "`+strings.Repeat(" "+word, n), "error text")
			}
		}
	}
}

// A command that is refused for its words does nothing.
func TestP15_4_RefusedWordsDoNothing(t *testing.T) {
	for _, line := range []string{"format now", `format "`, "rollback x", "close \x00", "commit commit", "put a", "put a 2 3", `put a "2`, "delete", "delete a b", "crash 1", "crash keep", "arm", "arm x", "boot boot", "open 1", "begin 1", "formats", "# rollback", " # rollback"} {
		text := lines("format", "open", "begin", "put a 1", line, "status", "get a", "commit", "get a", "txid")
		answers, _ := zeros(64).playText(t, text)
		if line[0] != '#' {
			if !strings.HasPrefix(answers[4], "error ") {
				t.Errorf("%q: %s", line, answers[4])
			}
			answers = slices.Delete(answers, 4, 5)
		}
		if !slices.Equal(answers, say("ok, ok, ok, ok, status 2, value 1, ok, value 1, txid 1")) {
			t.Errorf("around %q: %q", line, answers)
		}
	}
}

// asked is a line for each command that asks something of the store.
const asked = "format\nopen\nclose\nbegin\nput a 1\ndelete a\nget a\nscan \"\" \"\" 9\ncommit\nrollback"

// Each command in each status, each over a store of its own.
func TestP15_4_EveryCommandInEveryStatus(t *testing.T) {
	filled := zeros(64).built(t, row("format open", work(put("a", "9"), put("b", ""))))
	ahead := map[string]string{
		"Closed":  "status",
		"Opened":  "open\nstatus",
		"Working": "open\nbegin\nput c 3\nstatus",
		"Broken":  "open\nbegin\n" + textOf(puts(0, 40, 700)) + "\ncommit\nstatus",
		"Dead":    "open\nbegin\nput c 3\narm 0\ncommit\nstatus",
	}
	want := map[string][]string{
		"Closed":  say("ok, ok, error status, error status, error status, error status, error status, error status, error status, error status"),
		"Opened":  say("ok, error status, ok, ok, error status, error status, value 9, pairs 2 a 9 b \"\", error status, error status"),
		"Working": say("error status, error status, ok, error status, ok, ok, value 9, pairs 3 a 9 b \"\" c 3, ok, ok"),
		"Broken":  say("error status, error status, ok, error status, error status, error status, error status, error status, error status, ok"),
		"Dead":    say("error dead, error dead, error dead, error dead, error dead, error dead, error dead, error dead, error dead, error dead"),
	}
	for i, name := range []string{"Closed", "Opened", "Working", "Broken", "Dead"} {
		for k, line := range strings.Split(asked, "\n") {
			answers, _ := filled.playText(t, ahead[name]+"\n"+line)
			status, got := answers[len(answers)-2], answers[len(answers)-1]
			if status != fmt.Sprint("status ", i) || got != want[name][k] {
				t.Errorf("%s: %q, %s: %q, want %q", name, status, line, got, want[name][k])
			}
		}
	}
}

func TestP15_4_TheAnswers(t *testing.T) {
	d := zeros(64).wantAnswers(t, lines(
		"open", "format", "open", "txid", "status", "begin", "status", "txid",
		"put b 2", "put a 1", `put "c d" ""`, `put "" x`, `put `+strings.Repeat("k", 256)+` 1`, `put a `+strings.Repeat("v", 701),
		"get a", "get z", `get "c d"`, `get ""`, "delete z", "delete a", "delete a", `delete ""`,
		`scan "" "" 9`, `scan "" "" 1`, `scan b "" 0`, `scan b c 9`, `scan c b 9`, `scan x "" 9`, `scan "" "" 1000`, `scan "" "" 1001`,
		"commit", "txid", "status", "begin", "delete b", "rollback", "get b", "begin", "commit", "txid", "close", "txid", "status", "format", "open", "txid", `scan "" "" 9`,
	), "error corrupt", "ok", "ok", "txid 0", "status 1", "ok", "status 2", "txid 0",
		"ok", "ok", "ok", "error arg", "error arg", "error arg",
		"value 1", "none", `value ""`, "error arg", "none", "ok", "none", "error arg",
		`pairs 2 b 2 "c d" ""`, "pairs 1 b 2", "pairs 0", "pairs 1 b 2", "pairs 0", "pairs 0", `pairs 2 b 2 "c d" ""`, "error arg",
		"ok", "txid 1", "status 1", "ok", "ok", "ok", "value 2", "ok", "ok", "txid 2", "ok", "txid 0", "status 0", "ok", "ok", "txid 0", "pairs 0")
	d.wantAnswers(t, "open\ntxid", "ok", "txid 0")
}

// The refusals that a commit has: no room, no number, no power.
func TestP15_4_CommitsThatAreRefused(t *testing.T) {
	many := textOf(puts(0, 40, 700))
	oks := strings.Split(strings.Repeat("ok ", 40), " ")[:40]
	want := slices.Concat(say("ok, ok, ok"), oks, say("error full, status 3, error status, ok, none, status 1"))
	zeros(64).wantAnswers(t, lines("format", "open", "begin", many, "commit", "status", "get a", "rollback", "get a", "status"), want...)
	d := device.New(64)
	must(t, meta.Store(d, api.Meta{Pages: 8, Txid: 1<<64 - 2}))
	must(t, d.Sync())
	last := disk{64, d.Durable()}
	after := last.wantAnswers(t, lines("open", "txid", "begin", "put a 1", "commit", "txid", "begin", "put a 2", "commit", "txid", "status", "close", "open", "get a"),
		say("ok, txid 18446744073709551614, ok, ok, ok, txid 18446744073709551615, ok, ok, error txid, txid 18446744073709551615, status 3, ok, ok, value 1")...)
	after.wantAnswers(t, lines("open", "begin", "commit", "rollback", "get a", "format", "open", "txid"), say("ok, ok, error txid, ok, value 1, ok, ok, txid 0")...)
	zeros(64).wantAnswers(t, lines("format", "open", "begin", "arm 0", "commit", "status", "txid", "rollback", "boot", "status"),
		say("ok, ok, ok, ok, error dead, status 4, txid 0, error dead, ok, status 0")...)
}

func TestP15_4_Counts(t *testing.T) {
	zeros(64).wantAnswers(t, lines("counts", "open", "format", "counts", "open", "counts", "begin", "put a 1", "get a", "counts", "commit", "counts", "begin", "commit", "counts", "begin", "arm 0", "commit", "counts", "boot", "counts", "arm 1", "format", "counts"),
		say("counts 0 0, error corrupt, ok, counts 3 3, ok, counts 3 3, ok, ok, value 1, counts 3 3, ok, counts 12 5, ok, ok, counts 13 7, ok, ok, error dead, counts 13 8, ok, counts 13 8, ok, error dead, counts 14 9")...)
}

// Crash and boot make a new store, whatever the old one was in the midst of; arms wait over both.
func TestP15_4_CrashArmBoot(t *testing.T) {
	base := lines("format", "open", "begin", "put a 1", "commit", "begin", "put a 2") + "\n"
	oks := say("ok, ok, ok, ok, ok, ok, ok")
	after := func(rest string, want string) {
		t.Helper()
		zeros(64).wantAnswers(t, base+strings.ReplaceAll(rest, ", ", "\n"), slices.Concat(oks, say(want))...)
	}
	for _, word := range []string{"boot", "crash", "crash keep=0 drop=1 tear=2:3:x"} {
		after(word+", status, get a, open, get a, txid", "ok, status 0, error status, ok, value 1, txid 1")
		after(word+", "+word+", open, open, get a", "ok, ok, ok, error status, value 1")
		after("arm 0, "+word+", open, begin, commit, open, "+word+", open, get a", "ok, ok, ok, ok, error dead, error dead, ok, ok, value 1")
		after("arm 1, commit, "+word+", open, get a", "ok, error dead, ok, ok, value 1")
		after("arm 3, commit, "+word+", open, get a", "ok, error dead, ok, ok, value 2")
		after("arm 0, arm 0, commit, "+word+", open, begin, commit, "+word+", open, begin, commit, txid", "ok, ok, error dead, ok, ok, ok, error dead, ok, ok, ok, ok, txid 2")
		after("arm 0, commit, arm 0, "+word+", format, "+word+", open", "ok, error dead, ok, ok, error dead, ok, ok")
	}
	after("arm 4, commit, get a, begin, put a 3, commit, boot, open, get a", "ok, ok, value 2, ok, ok, error dead, ok, ok, value 2")
	after("arm 0 keep=0, commit, arm 5 keep=0, boot, open, begin, put a 3, commit, begin, put a 4, commit, boot, open, get a, txid", "ok, error dead, ok, ok, ok, ok, ok, ok, ok, ok, error dead, ok, ok, value 3, txid 2")
}

func TestP15_5_Numbers(t *testing.T) {
	good := []string{"0", "1", "7", "00", "000000007", "999", "999999999", "123456789"}
	bad := []string{`""`, "x", "1x", "x1", "-1", "+1", "-0", "1234567890", "0000000001", "0000000000", "1.0", "1e2", "0x1", "1_0", `" 1"`, `"1 "`, `"1\x00"`, "\"\\xb9\"", `"\xd9\xa1"`, "9999999999999999999999999", "1:", ":1", "1,0", "/", ":"}
	for _, n := range good {
		want := "pairs 1 a 1"
		if strings.Trim(n, "0") == "" {
			want = "pairs 0"
		}
		if n >= "1001" && len(n) > 3 {
			want = "error arg"
		}
		zeros(64).wantAnswers(t, lines("format", "open", "begin", "put a 1", `scan "" "" `+n), "ok", "ok", "ok", "ok", want)
		zeros(64).wantAnswers(t, lines("arm "+n, "crash keep="+n, "crash drop="+n, "crash tear="+n+":0:", "crash tear=0:"+n+":"), say("ok, ok, ok, ok, ok")...)
	}
	for _, n := range bad {
		bare := strings.Trim(n, `"`)
		for _, line := range []string{`scan "" "" ` + n, `scan "" a ` + n, "arm " + n, "arm " + n + " keep=0", `arm 1 "keep=` + bare + `"`, `crash "keep=` + bare + `"`, `crash "drop=` + bare + `"`, `crash keep=1 "drop=` + bare + `" keep=2`} {
			zeros(64).wantAnswers(t, line, "error arg")
		}
		if !strings.Contains(n, ":") {
			zeros(64).wantAnswers(t, `crash "tear=`+bare+`:1:"`, "error arg")
			zeros(64).wantAnswers(t, `crash "tear=1:`+bare+`:"`, "error arg")
		}
	}
	zeros(64).wantAnswers(t, "crash tear=:1:\ncrash tear=1::\ncrash tear=::\ncrash tear=1:2\ncrash tear=1\ncrash tear=\ncrash tear=:1:2:3", say("error arg, error arg, error arg, error arg, error arg, error arg, error arg")...)
}

// A number that is none is told ahead of the store's status, and the store is not asked.
func TestP15_5_TheStoreIsNotAsked(t *testing.T) {
	zeros(64).wantAnswers(t, lines(`scan "" "" x`, "format", "open", `scan "" "" x`, "begin", "arm 0", "commit", `scan "" "" x`, "status"),
		say("error arg, ok, ok, error arg, ok, ok, error dead, error arg, status 4")...)
}

func TestP15_5_FatesThatAreNone(t *testing.T) {
	for _, word := range []string{`""`, "keep", "keep=", "drop", "drop=", "tear", "tear=", "=1", "1", "lost=1", "Keep=1", "KEEP=1", "keep:1", "keep=1:", "keep=1:2", "drop=1:2:3", "keep==1", "keep=1=", "keeps=1", "kee=1", "tear=1", "tear=1:", "tear=1:2", "tear=:2:a", "tear=1::a", "tear=a:2:", "tear=1:b:", "tear=1 ", `"keep= 1"`, `" keep=1"`, `"keep=1 "`, `"tear=1 :2:"`, "tear=-1:2:", "tear=1:-2:", "keep=1,2"} {
		if word == "tear=1 " {
			word = `"tear=1 "`
		}
		for _, line := range []string{"crash " + word, "crash keep=0 " + word, "crash " + word + " keep=0", "arm 0 " + word, "arm 0 keep=0 " + word, "arm 0 " + word + " keep=0"} {
			zeros(64).wantAnswers(t, lines("format", "open", "begin", "put a 1", line, "status", "commit", "get a"), say("ok, ok, ok, ok, error arg, status 2, ok, value 1")...)
		}
	}
}

// The fates of a commit's writes: the device must hold what layer 3 makes of them.
func TestP15_5_Fates(t *testing.T) {
	base := zeros(64).built(t, row("format open", work(put("a", "1")), work(put("a", "2"))))
	for _, fates := range [][]api.Fate{
		{{Index: 0, Kind: api.FateKeep}},
		{{Index: 7, Kind: api.FateKeep}},
		{{Index: 7, Kind: api.FateKeep}, {Index: 1, Kind: api.FateDrop}, {Index: 1, Kind: api.FateKeep}, {Index: 0, Kind: api.FateKeep}},
		{{Index: 8, Kind: api.FateKeep}, {Index: 999999999, Kind: api.FateKeep}},
		{{Index: 0, Kind: api.FateTear, Cut: 0, Junk: ""}},
		{{Index: 0, Kind: api.FateTear, Cut: 0, Junk: "x"}},
		{{Index: 0, Kind: api.FateTear, Cut: 24, Junk: ":a:b:"}},
		{{Index: 0, Kind: api.FateTear, Cut: 24, Junk: "\x00\x01\xff \"\\"}},
		{{Index: 0, Kind: api.FateTear, Cut: 511, Junk: strings.Repeat("long", 300)}},
		{{Index: 0, Kind: api.FateTear, Cut: 512, Junk: "x"}, {Index: 3, Kind: api.FateTear, Cut: 999999999, Junk: "="}},
		{{Index: 0, Kind: api.FateTear, Cut: 3, Junk: "keep=1"}, {Index: 1, Kind: api.FateDrop}, {Index: 2, Kind: api.FateTear, Cut: 100, Junk: "1:2:3"}},
	} {
		for after := range 5 {
			l := row("open begin", put("a", "3"), arm(after, fates...), "commit")
			_, got := base.play(t, l)
			h := base.byHand(t)
			for _, o := range l {
				h.do(o)
			}
			if want := h.d.Durable(); !slices.Equal(got.list, want) {
				t.Errorf("%v: other sectors are durable", l[3])
			}
		}
	}
}

// fancy is a word written in one of the ways in which it may be.
func fancy(rnd *rand.Rand, word string) string {
	switch rnd.Intn(4) {
	case 0:
		var out strings.Builder
		for _, b := range []byte(word) {
			fmt.Fprintf(&out, []string{`\x%02x`, `\x%02X`}[rnd.Intn(2)], b)
		}
		return `"` + out.String() + `"`
	case 1:
		if q := plainQuote(word); q[0] == '"' {
			return q
		}
		return `"` + word + `"`
	}
	return plainQuote(word)
}

// fancyText is orders as a text, with comments, blanks and lines without words.
func fancyText(rnd *rand.Rand, l []order) string {
	blanks := func(least int) string { return strings.Repeat(" ", least+max(0, rnd.Intn(8)-5)) }
	ahead := []string{"", "", "", "", "\n", "#\n", "# put a 1\n", "  \n", "#\"\x00\n"}
	var text strings.Builder
	for i, o := range l {
		text.WriteString(ahead[rnd.Intn(len(ahead))] + blanks(0))
		for k, w := range o.words() {
			if k > 0 {
				text.WriteString(blanks(1))
			}
			text.WriteString(fancy(rnd, w))
		}
		text.WriteString(blanks(0))
		if i < len(l)-1 || rnd.Intn(2) == 0 {
			text.WriteString("\n")
		}
	}
	return text.String()
}

// Long texts, each held against the calls of layers 3 and 14, made by hand: what is answered, and what is durable.
func TestP15_4_AsByHand(t *testing.T) {
	t.Parallel()
	rnd := rand.New(rand.NewSource(154))
	heard := map[string]int{}
	for round := range 200 {
		d := zeros([]int{31, 32, 40, 64, 101, 300, 2000}[round%7])
		w := newWriter(rnd, d.sectors, true)
		for range 3 {
			l := w.orders(20000)
			h := d.byHand(t)
			var want []string
			for _, o := range l {
				a := h.do(o)
				want = append(want, a)
				heard[o.name+": "+strings.Join(strings.Fields(a)[:min(2, len(strings.Fields(a)))], " ")]++
			}
			text := fancyText(rnd, l)
			if len(text) > api.MaxText {
				continue
			}
			d = d.wantAnswers(t, text, want...)
			if !slices.Equal(d.list, h.d.Durable()) {
				t.Fatalf("behind %d commands other sectors are durable", len(l))
			}
		}
	}
	for _, kind := range []string{
		"format: ok", "format: error arg", "format: error status", "format: error dead",
		"open: ok", "open: error corrupt", "open: error status", "open: error dead",
		"close: ok", "close: error status", "close: error dead", "begin: ok", "begin: error status", "begin: error dead",
		"put: ok", "put: error arg", "put: error status", "put: error dead",
		"delete: ok", "delete: none", "delete: error arg", "delete: error status", "delete: error dead",
		"get: none", "get: error arg", "get: error status", "get: error dead",
		"scan: pairs 0", "scan: pairs 2", "scan: error arg", "scan: error status", "scan: error dead",
		"commit: ok", "commit: error full", "commit: error status", "commit: error dead",
		"rollback: ok", "rollback: error status", "rollback: error dead",
		"status: status 0", "status: status 1", "status: status 2", "status: status 3", "status: status 4", "txid: txid 0", "txid: txid 3", "crash: ok", "arm: ok", "boot: ok",
	} {
		if heard[kind] < 3 {
			t.Errorf("%s was heard %d times", kind, heard[kind])
		}
	}
}

func TestP15_6_NoByteThatCantBeSeen(t *testing.T) {
	all := ""
	for i := range 256 {
		all += string([]byte{byte(i)})
	}
	var l []order
	for i := range 256 {
		b := string([]byte{byte(i)})
		l = append(l, put(b, b), get(b), put(b+all[:200], all[i:]+all[:i]), get(b+all[:200]))
	}
	for cut := 0; cut < len(l); cut += 64 {
		h := zeros(4000).byHand(t)
		orders := row("format open begin", l[cut:cut+64], scan("", "", 9), "commit", scan("", "", 9))
		answers, _ := zeros(4000).play(t, orders)
		for i, o := range orders {
			if want := h.do(o); answers[i] != want {
				t.Errorf("%.40v: %.60q, want %.60q", o, answers[i], want)
			}
		}
	}
	for b := range 256 {
		zeros(32).playText(t, string([]byte{byte(b)}))
		zeros(32).playText(t, "get "+string([]byte{byte(b)}))
	}
}

// Numbers with one digit and with many, none with a nought ahead.
func TestP15_6_Numbers(t *testing.T) {
	for _, txid := range []uint64{0, 1, 9, 10, 11, 99, 100, 1 << 32, 1 << 63, 1<<64 - 1} {
		d := device.New(64)
		must(t, meta.Store(d, api.Meta{Pages: 8, Txid: txid}))
		must(t, d.Sync())
		disk{64, d.Durable()}.wantAnswers(t, "open\ntxid", "ok", fmt.Sprintf("txid %d", txid))
	}
	var l []order
	for i := range 130 {
		l = append(l, put(fmt.Sprintf("%03d", i), ""))
	}
	l = row("format open begin", l, "commit")
	for _, n := range []int{0, 1, 9, 10, 11, 99, 100, 101, 130, 131, 1000} {
		answers, _ := zeros(64).play(t, append(slices.Clone(l), scan("", "", n)))
		if got, want := strings.Join(strings.Fields(answers[len(l)])[:2], " "), fmt.Sprintf("pairs %d", min(n, 130)); got != want {
			t.Errorf("%s, want %s", got, want)
		}
	}
	for n := range 12 {
		l := row("format open", slices.Repeat(row("begin commit"), n), "counts")
		if answers, _ := zeros(64).play(t, l); answers[len(l)-1] != fmt.Sprintf("counts %d %d", 3+n, 3+2*n) {
			t.Errorf("%d commits: %s", n, answers[len(l)-1])
		}
	}
}

const someText = "open\nget a\nscan \"\" \"\" 9\nbegin\nput \"b c\" 2\narm 9 tear=0:1:xyz\ncommit\nget \"b c\""

func TestP15_7_NothingIsKeptOrChanged(t *testing.T) {
	base := zeros(64).built(t, row("format open", work(put("a", "1"), put("d", "\x00"))))
	want, wantDisk := base.playText(t, someText)
	handed := append(slices.Clone(base.list), api.Sector{Index: 50, Data: full('s')})
	list := handed[:len(base.list)]
	for round := range 3 {
		text := []byte(someText)
		var memory [][]byte
		for i, x := range list {
			memory = append(memory, []byte(x.Data))
			list[i].Data = unsafe.String(&memory[i][0], 512)
		}
		answers, after, err := script.Run(64, list, unsafe.String(&text[0], len(text)))
		must(t, err)
		if string(text) != someText || !slices.Equal(list, base.list) || handed[len(list)] != (api.Sector{Index: 50, Data: full('s')}) {
			t.Fatal("Run has changed what it was handed")
		}
		for i := range text {
			text[i] = 'z'
		}
		for i := range list {
			clear(memory[i])
			list[i] = base.list[i]
		}
		if !slices.Equal(answers, want) || !slices.Equal(after, wantDisk.list) {
			t.Fatalf("round %d: what Run has answered hangs on what it was handed", round)
		}
		for i := range answers[:cap(answers)] {
			answers[:cap(answers)][i] = "spoilt"
		}
		for i := range after[:cap(after)] {
			after[:cap(after)][i] = api.Sector{Index: -1, Data: "spoilt"}
		}
	}
}

// Each Run begins with what it is handed, and with nothing else.
func TestP15_7_RunsKnowNothingOfOneAnother(t *testing.T) {
	zeros(64).wantAnswers(t, "format\nopen\nbegin\nput a 1\ncommit\narm 0\narm 0", say("ok, ok, ok, ok, ok, ok, ok")...)
	zeros(64).wantAnswers(t, "open\nstatus\ncounts\nformat", say("error corrupt, status 0, counts 0 0, ok")...)
}

func TestExamplesOfTheChapter(t *testing.T) {
	zeros(32).wantAnswers(t, lines("open", "format", "open", "begin", "put a 1", "get a", "commit", "get a", `scan "" "" 9`, "delete a", "close", "txid"),
		say("error corrupt, ok, ok, ok, ok, value 1, ok, value 1, pairs 1 a 1, error status, ok, txid 0")...)
	four := lines("format", "open", "begin", "put a 1", "ARM", "commit", "get a", "boot", "open", "get a")
	for arm, want := range map[string]string{
		"arm 9":                "ok, ok, ok, ok, ok, ok, value 1, ok, ok, value 1",
		"arm 2":                "ok, ok, ok, ok, ok, error dead, error dead, ok, ok, none",
		"arm 2 keep=0":         "ok, ok, ok, ok, ok, error dead, error dead, ok, ok, value 1",
		"arm 2 tear=0:100:zz":  "ok, ok, ok, ok, ok, error dead, error dead, ok, ok, none",
		"arm 2 tear=0:100:":    "ok, ok, ok, ok, ok, error dead, error dead, ok, ok, value 1",
		"arm 2 drop=0 keep=0":  "ok, ok, ok, ok, ok, error dead, error dead, ok, ok, none",
		"arm 3":                "ok, ok, ok, ok, ok, error dead, error dead, ok, ok, value 1",
		"arm 4":                "ok, ok, ok, ok, ok, ok, value 1, ok, ok, value 1",
		"arm 002 \"keep=000\"": "ok, ok, ok, ok, ok, error dead, error dead, ok, ok, value 1",
	} {
		zeros(32).wantAnswers(t, strings.Replace(four, "ARM", arm, 1), say(want)...)
	}
	zeros(32).wantAnswers(t, "put a\njump\nscan \"\" \"\" x", say("error short, error text, error arg")...)
}
