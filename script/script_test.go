package script_test

import (
	"math"
	"math/rand"
	"slices"
	"strconv"
	"strings"
	"testing"

	"cavalcade/api"
	"cavalcade/box"
	"cavalcade/notes"
	"cavalcade/rollup"
	"cavalcade/script"
	"cavalcade/tx"
)

const top = 1 << 40

const netLine = "net 1 4 5 0 0 9 0 9 4 700 2 2 3 2\n"

func net() api.Net {
	return api.Net{Depth: 1, Wait: 4, Length: 5, Pool: 9, Stay: 9, Rules: api.Rules{Parts: 4, Bytes: 700, Age: 2, Lag: 2}, Patience: 3, Window: 2}
}

// each is a line of each kind, as a text and as what it says.
func each() ([]string, []api.Line) {
	long := strings.Repeat("\x00\xff", 128)
	texts := []string{
		"send 1 2 3 4 -", "send 63 1099511627776 0 10 00ff", "lane 1 2 3 4 61 6 7 8", "text " + strings.Repeat("00ff", 128), "text -", "tick 9", "tick 1099511627776", "delayed 64 0a", "force 5", "post 6 20",
		"mine 2 3", "turn 4 5", "crash 6", "start", "arm 7", "fund 8 9", "bid 1 2 3 4", "show",
	}
	lines := []api.Line{
		{Kind: api.LSend, From: 1, Nonce: 2, Fee: 3, To: 4}, {Kind: api.LSend, From: 63, Nonce: top, To: 10, Data: "\x00\xff"}, {Kind: api.LLane, From: 1, Nonce: 2, Fee: 3, To: 4, Data: "a", Round: 6, Turn: 7, By: 8},
		{Kind: api.LText, Data: long}, {Kind: api.LText}, {Kind: api.LTick, N: 9}, {Kind: api.LTick, N: top}, {Kind: api.LDelayed, By: 64, Data: "\n"}, {Kind: api.LForce, N: 5}, {Kind: api.LPost, By: 6, Data: " "},
		{Kind: api.LMine, N: 2, Salt: 3}, {Kind: api.LTurn, N: 4, Salt: 5}, {Kind: api.LCrash, N: 6}, {Kind: api.LStart}, {Kind: api.LArm, N: 7}, {Kind: api.LFund, By: 8, N: 9}, {Kind: api.LBid, By: 1, Round: 2, N: 3, Salt: 4}, {Kind: api.LShow},
	}
	return texts, lines
}

func same(a, b api.Script) bool { return a.Net == b.Net && slices.Equal(a.Lines, b.Lines) }

func TestParse(t *testing.T) {
	texts, lines := each()
	want := api.Script{Net: net(), Lines: lines}
	all := netLine + strings.Join(texts, "\n")
	for _, s := range []string{all, all + "\n", "\n\n" + strings.ReplaceAll(all, "\n", "\n\n\n") + "\n\n"} {
		if got, at, e := script.Parse(s); !same(got, want) || at != 0 || e != api.OK {
			t.Errorf("%v, %d, %d", got, at, e)
		}
	}
	great := api.Net{Depth: 1, Wait: 2, Length: 3, Floor: 4, Reserve: 5, Pool: 6, Delay: 7, Stay: 8, Rules: api.Rules{Parts: 9, Bytes: 10, Age: 11, Lag: 12}, Patience: 13, Window: top}
	if got, at, e := script.Parse("net 1 2 3 4 5 6 7 8 9 10 11 12 13 1099511627776"); !same(got, api.Script{Net: great}) || at != 0 || e != api.OK {
		t.Errorf("%v, %d, %d", got, at, e)
	}
}

// wrong asks for ErrLine and a line's number.
func wrong(t *testing.T, text string, at int) {
	t.Helper()
	if s, n, e := script.Parse(text); !same(s, api.Script{}) || n != at || e != api.ErrLine {
		t.Errorf("%q: %v, %d, %d, not %d", text, s, n, e, at)
	}
	if got := script.Play(text); got != "line "+strconv.Itoa(at)+"\n" {
		t.Errorf("%q: %q", text, got)
	}
}

func TestParseErrors(t *testing.T) {
	wrong(t, "", 0)
	wrong(t, "\n\n\n", 0)
	wrong(t, "show", 0)
	wrong(t, "\n\nshow\n"+netLine, 2)
	wrong(t, " ", 0)
	wrong(t, netLine+netLine, 1)
	wrong(t, netLine+"start\n\nstart \nstop", 3)
	bare := strings.TrimSuffix(netLine, "\n")
	for _, s := range []string{bare + " 1", bare[:len(bare)-2], bare + " ", " " + bare, "net", strings.Replace(bare, " ", "  ", 1), strings.ToUpper(bare), bare + "\r", strings.Replace(bare, "700", "0700", 1), strings.Replace(bare, "700", "-", 1)} {
		wrong(t, s, 0)
	}
	for _, s := range []string{
		"send 1 2 3 4", "send 1 2 3 4 - -", "send 1 2 3 - 4", "send", "lane 1 2 3 4 - 5 6", "text", "text ", "text - ", " text -", "text  -", "text 0", "text 000", "text 0A", "text 0g", "text --", "text 00-", "text " + strings.Repeat("00", 257),
		"tick", "tick 01", "tick 00", "tick -1", "tick +1", "tick 1.0", "tick 1e3", "tick 0x1", "tick a", "tick 1099511627777", "tick 99999999999999999999999", "tick ", "tick  1", "tick 1 ", "tick\t1", "tick 1_0", "tick ٣",
		"delayed 1", "delayed - 1", "force", "force -", "post 1 2 3", "mine 1", "mine 1 2 3", "turn 1", "crash", "crash 1 2", "start 1", "start ", "arm", "fund 1", "bid 1 2 3", "bid 1 2 3 4 5", "show 1", "Show", "s", "stop", "0", "-", "\x00", "start\r", "é",
	} {
		wrong(t, netLine+"start\n"+s+"\nno line either", 2)
	}
}

func TestTooManyLines(t *testing.T) {
	good := netLine + strings.Repeat("\n", 1022) + "show"
	if s, at, e := script.Parse(good); len(s.Lines) != 1 || at != 0 || e != api.OK {
		t.Errorf("1024 lines: %d, %d", at, e)
	}
	for _, s := range []string{good + "\n", strings.Repeat("\n", 1024), strings.Repeat("x\n", 5000)} {
		if got, at, e := script.Parse(s); !same(got, api.Script{}) || at != 0 || e != api.ErrBig {
			t.Errorf("too many lines: %d, %d", at, e)
		}
		if script.Play(s) != "big\n" {
			t.Error(script.Play(s))
		}
	}
	wrong(t, strings.Repeat("\n", 1023), 0)
}

func TestWrite(t *testing.T) {
	texts, lines := each()
	want := netLine + strings.Join(texts, "\n") + "\n"
	if s, e := script.Write(api.Script{Net: net(), Lines: lines}); s != want || e != api.OK {
		t.Errorf("%q, %d", s, e)
	}
	// What a line does not name is not looked at.
	for i := range lines {
		l := api.Line{Kind: lines[i].Kind, From: -1, Nonce: -1, Fee: -1, To: -1, Round: -1, Turn: -1, By: -1, N: -1, Salt: -1, Data: strings.Repeat("d", 999)}
		named := map[int][]*int{
			api.LSend: {&l.From, &l.Nonce, &l.Fee, &l.To}, api.LLane: {&l.From, &l.Nonce, &l.Fee, &l.To, &l.Round, &l.Turn, &l.By}, api.LTick: {&l.N}, api.LDelayed: {&l.By}, api.LForce: {&l.N}, api.LPost: {&l.By},
			api.LMine: {&l.N, &l.Salt}, api.LTurn: {&l.N, &l.Salt}, api.LCrash: {&l.N}, api.LArm: {&l.N}, api.LFund: {&l.By, &l.N}, api.LBid: {&l.By, &l.Round, &l.N, &l.Salt},
		}[l.Kind]
		data := slices.Contains([]int{api.LSend, api.LLane, api.LText, api.LDelayed, api.LPost}, l.Kind)
		for _, n := range named {
			*n = 7
		}
		if data {
			l.Data = "d"
		}
		good := func(e api.Errno) {
			t.Helper()
			if s, got := script.Write(api.Script{Net: net(), Lines: []api.Line{l}}); got != e || (s == "") != (e != api.OK) {
				t.Errorf("%v: %q, %d, not %d", l, s, got, e)
			}
		}
		good(api.OK)
		for _, n := range named {
			for _, bad := range []int{-1, top + 1, math.MinInt, math.MaxInt} {
				*n = bad
				good(api.ErrArg)
			}
			*n = top
			good(api.OK)
		}
		if data {
			l.Data = strings.Repeat("d", 256)
			good(api.OK)
			l.Data += "d"
			good(api.ErrArg)
		}
	}
}

func TestWriteErrors(t *testing.T) {
	for _, kind := range []int{0, -1, 16, math.MinInt, math.MaxInt} {
		if s, e := script.Write(api.Script{Net: net(), Lines: []api.Line{{Kind: api.LShow}, {Kind: kind}}}); s != "" || e != api.ErrArg {
			t.Errorf("kind %d: %d", kind, e)
		}
	}
	for i := range 14 {
		for _, bad := range []int{-1, top + 1} {
			n := net()
			*[]*int{&n.Depth, &n.Wait, &n.Length, &n.Floor, &n.Reserve, &n.Pool, &n.Delay, &n.Stay, &n.Rules.Parts, &n.Rules.Bytes, &n.Rules.Age, &n.Rules.Lag, &n.Patience, &n.Window}[i] = bad
			if s, e := script.Write(api.Script{Net: n}); s != "" || e != api.ErrArg {
				t.Errorf("number %d of the net: %d", i, e)
			}
		}
	}
	many := slices.Repeat([]api.Line{{Kind: api.LShow}}, 1023)
	if s, e := script.Write(api.Script{Net: net(), Lines: many}); s != "" || e != api.ErrBig {
		t.Errorf("1023 lines: %d", e)
	}
	s, e := script.Write(api.Script{Net: net(), Lines: many[:1022]})
	if got, _, f := script.Parse(s); e != api.OK || f != api.OK || len(got.Lines) != 1022 {
		t.Errorf("1022 lines: %d, %d", e, f)
	}
	if _, e := script.Write(api.Script{Net: net(), Lines: append(many, api.Line{})}); e != api.ErrArg {
		t.Errorf("too many, and one that is none: %d", e)
	}
}

// number is one that may be, often an edge.
func number(r *rand.Rand) int {
	return []int{0, 1, 2, 3, 10, 63, 64, 65, 1000, top, top - 1, r.Intn(100)}[r.Intn(12)]
}

// random is a line with nothing that it does not name.
func random(r *rand.Rand) api.Line {
	l := api.Line{Kind: 1 + r.Intn(15)}
	data := strings.Repeat(string([]byte{byte(r.Intn(256))}), r.Intn(4))
	switch l.Kind {
	case api.LSend, api.LLane:
		l.From, l.Nonce, l.Fee, l.To, l.Data = r.Intn(3), r.Intn(4), r.Intn(4), number(r)%64, data
		if l.Kind == api.LLane {
			l.Round, l.Turn, l.By = r.Intn(3), r.Intn(2), r.Intn(4)
		}
	case api.LText:
		l.Data = data
	case api.LDelayed, api.LPost:
		l.By, l.Data = number(r), data
	case api.LMine, api.LTurn:
		l.N, l.Salt = r.Intn(4), number(r)
	case api.LFund:
		l.By, l.N = number(r), number(r)
	case api.LBid:
		l.By, l.Round, l.N, l.Salt = number(r), number(r), number(r), number(r)
	case api.LTick, api.LForce, api.LCrash, api.LArm:
		l.N = number(r)
	}
	return l
}

func TestThereAndBack(t *testing.T) {
	r := rand.New(rand.NewSource(25))
	for range 500 {
		s := api.Script{Net: net()}
		for range r.Intn(30) {
			s.Lines = append(s.Lines, random(r))
		}
		text, e := script.Write(s)
		if e != api.OK {
			t.Fatal(int(e))
		}
		if got, at, e := script.Parse(text); !same(got, s) || at != 0 || e != api.OK {
			t.Fatalf("%q: %d, %d", text, at, e)
		}
	}
}

// answers holds the answer of a script's text against the lines that it should have.
func answers(t *testing.T, text string, lines ...string) {
	t.Helper()
	got := script.Play(netLine + text)
	if want := strings.Join(lines, "\n") + "\n"; got != want {
		t.Errorf("%s\nanswers\n%snot\n%s", text, got, want)
	}
}

func TestExample(t *testing.T) {
	got := script.Play("net 1 4 5 0 0 9 0 9 4 700 1 1 2 2\nstart\nsend 1 0 2 3 -\ntick 1\nshow\n")
	x, _ := tx.Sign(api.Tx{From: 1, Fee: 2, To: 3})
	s, _ := tx.Text(x)
	r, _ := notes.Link(api.Hash{}, 0, api.MTx, 0, s)
	hash := ""
	for _, b := range r.Hash[:4] {
		hash += string("0123456789abcdef"[b>>4]) + string("0123456789abcdef"[b&15])
	}
	if got != "ok\nin 0\ntick 1\nshow 1 "+hash+" up 0 0 0 0 0\n" {
		t.Errorf("%q", got)
	}
}

func TestRunErrors(t *testing.T) {
	if got := script.Run(api.Script{}); got != "net 2\n" {
		t.Errorf("%q", got)
	}
	if got := script.Play("net 65 4 5 0 0 9 0 9 4 700 1 1 2 2\nstart"); got != "net 2\n" {
		t.Errorf("%q", got)
	}
	if got := script.Play(netLine); got != "" {
		t.Errorf("%q", got)
	}
	answers(t, "show\nstart\nstart\ncrash 3\nshow", "show 0 - down 0 0 0 0", "ok", "error 23", "ok", "show 0 - down 0 0 0 0")
	answers(t, "send 64 0 0 0 -\nsend 0 0 0 64 -\nlane 0 0 0 0 - 0 0 64\nlane 64 0 0 0 - 0 0 0\nlane 0 0 0 0 - 0 0 63\ntext 00\nsend 0 0 0 0 -\nshow",
		"bad 20", "bad 20", "bad 20", "bad 20", "in 0", "in 1", "in 2", "show 0 - down 0 0 0 0 e8 e8 e8")
	answers(t, "start\ntext 00\nsend 1 0 0 0 -\nsend 1 0 0 0 -\nsend 2 1 0 0 -\nlane 3 0 0 0 - 0 0 1\nlane 3 0 0 0 - 1 0 1\nshow", "ok", "in 0", "in 1", "in 2", "in 3", "in 4", "in 5", "show 0 - up 0 0 0 0 e6 w e23 w e34 e29")
	answers(t, "arm 0\nstart\narm 1\ncrash 0\nstart\narm 1", "ok", "error 8", "error 8", "ok", "ok", "ok")
	answers(t, "tick 3\ntick 0\ntick 1024\ntick 1025\ntick 1099511627776", "tick 3", "tick 3", "tick 1027", "tick 2051", "tick 3075")
	answers(t, "fund 64 1\nfund 1 1099511627776\nfund 1 1", "error 20", "ok", "error 3")
	answers(t, "bid 64 1 5 0\nbid 1 0 5 0\nbid 1 1 5 0\nbid 1 1 5 0\nbid 1 2 0 1", "bad 2", "error 26", "ok", "error 23", "ok")
}

func TestChain(t *testing.T) {
	// Items are dropped when a block is mined, and stay, when it is none.
	answers(t, "delayed 65 00\nmine 0 0\nmine 0 0\nshow\nturn 0 0\nturn 1 0\nshow", "item", "error 2", "error 2", "show 0 - down 0 0 0 0", "error 2", "error 32", "show 0 - down 0 0 0 0")
	answers(t, "delayed 1 61\nmine 0 1\nmine 0 1\nforce 1\nmine 0 1\nmine 0 1\nmine 0 1\nshow\nforce 9\nturn 3 1\nmine 0 1\nshow",
		"item", "ok", "ok", "item", "ok", "ok", "ok", "show 0 - down 5 0 0 0", "item", "ok", "ok", "show 0 - down 7 0 0 0")
	answers(t, "delayed 1 61\nmine 0 1\nmine 0 1\nmine 0 1\nforce 1\nmine 0 1\nforce 1\nmine 0 1\nmine 0 1\nshow",
		"item", "ok", "ok", "ok", "item", "ok", "item", "ok", "ok", "show 0 - down 6 1 1 0")
	// Each of them stands in one block, by a mine or a turn.
	calm := strings.Repeat("mine 0 0\n", 5)
	answers(t, "delayed 1 61\nmine 0 1\n"+calm+"force 9\nmine 0 1\nmine 0 1\nshow", "item", "ok", "ok", "ok", "ok", "ok", "ok", "item", "ok", "ok", "show 0 - down 8 1 1 0")
	answers(t, "delayed 1 61\nturn 0 1\n"+calm+"force 9\nturn 1 1\nmine 0 1\nshow", "item", "ok", "ok", "ok", "ok", "ok", "ok", "item", "ok", "ok", "show 0 - down 8 1 1 0")
	answers(t, "turn 1 0\nturn 1099511627776 0\nturn 0 7\nturn 1 7\nturn 2 7\nturn 3 7\nshow\nstart\nshow", "error 32", "error 32", "ok", "ok", "ok", "ok", "show 0 - down 4 0 0 0", "ok", "show 0 - halted 4 0 0 0")
}

// A batch goes onto the chain by a mine, or by the blocks of a turn, one post each.
func TestPosts(t *testing.T) {
	send := "start\nsend 1 0 0 0 -\nsend 1 1 0 0 -\nsend 1 2 0 0 -\nsend 1 3 0 0 -\nsend 1 4 0 0 -\nsend 1 5 0 0 -\ntick 3\nmine 0 0\n"
	said := []string{"ok", "in 0", "in 1", "in 2", "in 3", "in 4", "in 5", "tick 3", "ok"}
	all := script.Play(netLine + send + "show")
	head := strings.Fields(all[strings.Index(all, "show"):])[2]
	put := func(text string, lines ...string) {
		t.Helper()
		for i, l := range lines {
			lines[i] = strings.Replace(l, "HEAD", "6 "+head+" up", 1)
		}
		answers(t, send+text, append(slices.Clone(said), lines...)...)
	}
	put("show\nmine 0 0\nmine 9 0\nmine 0 0\nshow", "show HEAD 1 0 0 2 0 1 2 3 4 5", "ok", "ok", "ok", "show HEAD 4 6 0 0 0 1 2 3 4 5")
	put("mine 1 0\nmine 0 0\nshow", "ok", "ok", "show HEAD 3 4 0 1 0 1 2 3 4 5")
	put("turn 0 0\nturn 1 0\nshow\nmine 0 0\nshow", "ok", "ok", "show HEAD 3 0 0 1 0 1 2 3 4 5", "ok", "show HEAD 4 0 0 2 0 1 2 3 4 5")
	put("turn 1 5\nshow\nmine 0 0\nshow", "ok", "show HEAD 2 4 0 0 0 1 2 3 4 5", "ok", "show HEAD 3 6 0 0 0 1 2 3 4 5")
	put("mine 0 1\nmine 0 1\nturn 1 7\nmine 0 1\nshow", "ok", "ok", "ok", "ok", "show HEAD 5 6 0 0 0 1 2 3 4 5")
}

// A post that somebody lays is a batch, if it is one.
func TestLaidPost(t *testing.T) {
	s, _ := box.Write(api.Batch{})
	word := ""
	for i := range len(s) {
		word += string("0123456789abcdef"[s[i]>>4]) + string("0123456789abcdef"[s[i]&15])
	}
	x, _ := tx.Sign(api.Tx{From: 1})
	body, _ := tx.Text(x)
	b, _ := box.Write(api.Batch{Seq: 1, Parts: []api.Part{{Text: body}}})
	lines := []api.Line{{Kind: api.LPost, By: 7, Data: s}, {Kind: api.LPost, By: 7, Data: b}, {Kind: api.LMine}, {Kind: api.LMine}, {Kind: api.LShow}}
	if got := script.Run(api.Script{Net: net(), Lines: lines}); got != "item\nitem\nok\nok\nshow 0 - down 2 1 0 0\n" {
		t.Errorf("%q", got)
	}
	answers(t, "post 7 "+word+"\npost 7 00\nmine 0 0\nshow", "item", "item", "ok", "show 0 - down 1 0 0 0")
}

func TestLane(t *testing.T) {
	answers(t, "start\nfund 1 9\nbid 1 1 5 0\ntick 5\nlane 2 0 0 0 - 1 0 2\nlane 2 0 0 0 - 1 1 1\nlane 2 0 0 0 61 1 0 1\nlane 2 1 0 0 - 1 1 1\ntick 1\ncrash 0\nbid 1 2 9 0\nbid 1 3 10 0\ntick 4\nstart\nlane 2 2 0 0 - 2 0 1\nshow",
		"ok", "ok", "ok", "tick 5", "in 0", "in 1", "in 2", "in 3", "tick 6", "ok", "ok", "ok", "tick 10", "ok", "in 4", laneShow())
}

// laneShow is what is shown of it; of the hash only the world itself can tell.
func laneShow() string {
	w, _ := rollup.New(net())
	w.Start()
	w.Deposit(1, 9)
	b, _ := notes.SignBid(api.Bid{Round: 1, By: 1, Amount: 5})
	w.Bid(b)
	for range 5 {
		w.Tick()
	}
	for turn, data := range []string{"a", ""} {
		x, _ := tx.Sign(api.Tx{From: 2, Nonce: turn, Data: data, Lane: true, Round: 1, Turn: turn})
		x, _ = tx.Hand(x, 1)
		s, _ := tx.Text(x)
		w.Submit(s)
	}
	w.Tick()
	h := w.Told()[1].Hash
	word := ""
	for _, c := range h[:4] {
		word += string("0123456789abcdef"[c>>4]) + string("0123456789abcdef"[c&15])
	}
	return "show 2 " + word + " up 0 0 0 0 e21 e30 0 1 w"
}

// Lines that no text says are answered, too, and nothing breaks.
func TestRunAnything(t *testing.T) {
	r := rand.New(rand.NewSource(26))
	odd := func() int {
		return []int{-1, math.MinInt, math.MaxInt, 0, 1, 2, 64, 1 << 41, r.Intn(9)}[r.Intn(9)]
	}
	for range 300 {
		s := api.Script{Net: net()}
		for range 20 {
			l := random(r)
			if r.Intn(3) == 0 {
				l = api.Line{Kind: r.Intn(18) - 1, From: odd(), Nonce: odd(), Fee: odd(), To: odd(), Round: odd(), Turn: odd(), By: odd(), N: odd(), Salt: odd(), Data: strings.Repeat("d", r.Intn(700))}
			}
			s.Lines = append(s.Lines, l)
		}
		if got := script.Run(s); strings.Count(got, "\n") != 20 || !strings.HasSuffix(got, "\n") {
			t.Fatalf("%q", got)
		}
	}
}

// What is answered hangs on the script alone; of a script with lines more it is the same, and more.
func TestAlone(t *testing.T) {
	r := rand.New(rand.NewSource(27))
	for range 100 {
		s := api.Script{Net: net(), Lines: []api.Line{{Kind: api.LStart}}}
		for range 60 {
			l := random(r)
			if l.Kind == api.LCrash || l.Kind == api.LArm && r.Intn(2) == 0 {
				l = api.Line{Kind: api.LShow}
			}
			s.Lines = append(s.Lines, l)
		}
		whole := script.Run(s)
		if again := script.Run(s); again != whole {
			t.Fatal("two answers")
		}
		text, _ := script.Write(s)
		if script.Play(text) != whole {
			t.Fatal("played otherwise than run")
		}
		for n := range s.Lines {
			if !strings.HasPrefix(whole, script.Run(api.Script{Net: s.Net, Lines: s.Lines[:n]})) {
				t.Fatal("another beginning")
			}
		}
	}
}
