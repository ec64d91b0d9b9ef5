package rollup_test

import (
	"math/rand"
	"slices"
	"strconv"
	"testing"

	"cavalcade/api"
	"cavalcade/inbox"
	"cavalcade/rollup"
	"cavalcade/tx"
)

func TestStartAndCrash(t *testing.T) {
	w := newWorld(t, net())
	if w.Up() || w.Halted() {
		t.Error("up")
	}
	want(t, "compact", w.Compact(), api.ErrDown)
	want(t, "crash", w.Crash(nil), api.OK)
	want(t, "start", w.Start(), api.OK)
	want(t, "start", w.Start(), api.ErrTwice)
	if !w.Up() || w.Halted() {
		t.Error("down, or halted")
	}
	a := send(t, w, plain(1, 0, 0))
	ticks(t, w, 3)
	b := send(t, w, plain(1, 1, 0))
	counts(t, w, 1, 1, 0, 0)
	want(t, "crash", w.Crash([]int{0}), api.OK)
	ended(t, w, b, api.ErrDown)
	got(t, w, a, 0, 0, a)
	counts(t, w, 1, 0, 0, 0)
	if w.Up() {
		t.Error("up")
	}
	ticks(t, w, 2)
	mine(t, w, 0)
	if w.Now() != 5 || w.Height() != 1 {
		t.Error(w.Now(), w.Height())
	}
	counts(t, w, 1, 0, 0, 0)
	want(t, "start", w.Start(), api.OK)
	// It looks as soon as it starts, and its gate knows what was done.
	counts(t, w, 1, 1, 1, 1)
	ended(t, w, send(t, w, plain(1, 0, 0)), api.ErrNonce)
	c := send(t, w, plain(1, 1, 0))
	ticks(t, w, 1)
	got(t, w, c, 1, 5, c)
	ended(t, w, b, api.ErrDown)
	want(t, "compact", w.Compact(), api.OK)
	want(t, "crash", w.Crash(nil), api.OK)
	want(t, "start", w.Start(), api.OK)
	// Behind the start the same post is handed over, but it is on its way already.
	if w.Way() != 1 || len(w.Told()) != 2 || len(w.Cuts()) != 1 {
		t.Error(w.Way(), len(w.Told()), len(w.Cuts()))
	}
	for _, m := range w.Made() {
		if m != w.Made()[0] {
			t.Error("two posts of one number")
		}
	}
}

// At each operation of the disk the node may fall: what has a receipt is told, what has none got a name.
func TestDiskFails(t *testing.T) {
	fell := 0
	for n := range 30 {
		w := started(t, net())
		a := send(t, w, plain(1, 0, 0))
		ticks(t, w, 1)
		mine(t, w, 0, mail("m"))
		mine(t, w, 0)
		want(t, "arm", w.Arm(-1), api.ErrArg)
		want(t, "arm", w.Arm(n), api.OK)
		b := send(t, w, plain(1, 1, 0))
		c := send(t, w, plain(1, 2, 0))
		d := send(t, w, plain(1, 4, 0))
		ticks(t, w, 1)
		told := w.Told()
		// The operations: the inbox's message, two transactions, a sync; then four are due: a cut, a sync.
		switch {
		case n <= 3:
			if w.Up() || len(told) != 1 {
				t.Errorf("armed with %d: %v, %d", n, w.Up(), len(told))
			}
			ended(t, w, b, api.ErrDown)
			ended(t, w, c, api.ErrDown)
			ended(t, w, d, api.ErrDown)
		case n <= 5:
			if w.Up() || len(told) != 4 {
				t.Errorf("armed with %d: %v, %d", n, w.Up(), len(told))
			}
			got(t, w, b, 2, 1, b)
			got(t, w, c, 3, 1, c)
			ended(t, w, d, api.ErrDown)
		default:
			if !w.Up() || len(w.Cuts()) != 1 {
				t.Errorf("armed with %d: %v, %d", n, w.Up(), len(w.Cuts()))
			}
			waits(t, w, d)
		}
		if !w.Up() {
			fell++
			want(t, "start", w.Start(), api.ErrDown)
			want(t, "arm", w.Arm(1), api.ErrDown)
			ended(t, w, send(t, w, plain(9, 0, 0)), api.ErrDown)
		}
		got(t, w, a, 0, 0, a)
		want(t, "crash", w.Crash([]int{n * 40}), api.OK)
		want(t, "start", w.Start(), api.OK)
		if now := w.Told(); len(now) < len(told) || !slices.Equal(now[:len(told)], told) {
			t.Errorf("armed with %d: what was told is not told any more", n)
		}
	}
	if fell != 6 {
		t.Errorf("it fell %d times", fell)
	}
}

func TestCompactFails(t *testing.T) {
	for n := range 5 {
		w := started(t, net())
		send(t, w, plain(1, 0, 0))
		ticks(t, w, 1)
		i := send(t, w, plain(1, 1, 0))
		want(t, "arm", w.Arm(n), api.OK)
		e := w.Compact()
		if (e == api.OK) != (n >= 3) || w.Up() != (n >= 3) || e != api.OK && e != api.ErrDown {
			t.Errorf("armed with %d: %d, %v", n, e, w.Up())
		}
		if n < 3 {
			ended(t, w, i, api.ErrDown)
			want(t, "compact", w.Compact(), api.ErrDown)
		} else {
			waits(t, w, i)
		}
		w.Crash(nil)
		want(t, "start", w.Start(), api.OK)
		if len(w.Told()) != 1 {
			t.Error(len(w.Told()))
		}
	}
}

func TestStartFails(t *testing.T) {
	w := started(t, net())
	send(t, w, plain(1, 0, 0))
	ticks(t, w, 1)
	want(t, "crash", w.Crash(nil), api.OK)
	want(t, "arm", w.Arm(0), api.OK)
	want(t, "start", w.Start(), api.ErrDown)
	if w.Up() {
		t.Error("up")
	}
	counts(t, w, 1, 0, 0, 0)
	want(t, "crash", w.Crash(nil), api.OK)
	want(t, "start", w.Start(), api.OK)
}

func TestHalt(t *testing.T) {
	w := started(t, net())
	a := send(t, w, plain(1, 0, 0))
	ticks(t, w, 3)
	for range 4 {
		mine(t, w, 0)
	}
	want(t, "turn", w.Turn(1, make([]api.Mined, 2), 1), api.OK)
	if w.Halted() {
		t.Error("halted behind a turn that is not too deep")
	}
	b := send(t, w, plain(1, 1, 0))
	made := len(w.Made())
	want(t, "turn", w.Turn(2, make([]api.Mined, 3), 2), api.OK)
	if !w.Halted() || !w.Up() {
		t.Error("not halted, or down")
	}
	ended(t, w, b, api.ErrHalt)
	ended(t, w, send(t, w, plain(1, 1, 0)), api.ErrHalt)
	ended(t, w, send(t, w, "x"), api.ErrHalt)
	mine(t, w, 0, mail("m"))
	for range 5 {
		mine(t, w, 0)
		ticks(t, w, 1)
	}
	if len(w.Told()) != 1 || len(w.Cuts()) != 1 || len(w.Made()) != made || w.Now() != 8 {
		t.Error(len(w.Told()), len(w.Cuts()), len(w.Made()), w.Now())
	}
	want(t, "start", w.Start(), api.ErrTwice)
	want(t, "compact", w.Compact(), api.OK)
	want(t, "crash", w.Crash(nil), api.OK)
	if w.Halted() || w.Up() {
		t.Error("halted, and down")
	}
	ended(t, w, b, api.ErrHalt)
	got(t, w, a, 0, 0, a)
	ended(t, w, send(t, w, "x"), api.ErrDown)
	want(t, "start", w.Start(), api.OK)
	if !w.Halted() || len(w.Told()) != 1 || len(w.Made()) != made {
		t.Error("not halted, or something was told or made")
	}
}

// What was safe and not told when the chain was turned is never told.
func TestHaltAtStart(t *testing.T) {
	w := started(t, net())
	mine(t, w, 0)
	mine(t, w, 0)
	i := send(t, w, plain(1, 0, 0))
	want(t, "arm", w.Arm(1), api.OK)
	ticks(t, w, 1)
	ended(t, w, i, api.ErrDown)
	want(t, "crash", w.Crash([]int{999}), api.OK)
	want(t, "turn", w.Turn(2, make([]api.Mined, 3), 2), api.OK)
	want(t, "start", w.Start(), api.OK)
	if !w.Halted() || len(w.Told()) != 0 {
		t.Error(w.Halted(), len(w.Told()))
	}
	ticks(t, w, 2)
	if len(w.Told()) != 0 {
		t.Error(len(w.Told()))
	}
}

// A receipt that was torn off nowhere is told behind the start, though whoever handed it in heard that the node is down.
func TestSafeByChance(t *testing.T) {
	w := started(t, net())
	i := send(t, w, plain(1, 0, 0))
	w.Arm(1)
	ticks(t, w, 1)
	ended(t, w, i, api.ErrDown)
	w.Crash([]int{999})
	want(t, "start", w.Start(), api.OK)
	if l := w.Told(); len(l) != 1 || l[0].Body != plain(1, 0, 0) {
		t.Error(l)
	}
	ended(t, w, i, api.ErrDown)
	ended(t, w, send(t, w, plain(1, 0, 0)), api.ErrNonce)
}

// play is a world to which things happen by chance, and what was seen of it.
type play struct {
	t       *testing.T
	r       *rand.Rand
	w       *rollup.World
	n       api.Net
	nonces  [4]int
	told    []api.Receipt
	results []api.Result
	posts   map[int]string
	final   []api.Message
	forced  bool
	deep    bool
}

func newPlay(t *testing.T, seed int64) *play {
	r := rand.New(rand.NewSource(seed))
	n := api.Net{
		Depth: r.Intn(3), Wait: r.Intn(6), Length: 1 + r.Intn(6), Pool: 1 + r.Intn(12), Delay: r.Intn(4), Stay: r.Intn(10),
		Rules: api.Rules{Parts: 1 + r.Intn(5), Bytes: 700, Age: r.Intn(6), Lag: r.Intn(6)}, Patience: 1 + r.Intn(5), Window: 1 + r.Intn(4),
	}
	return &play{t: t, r: r, w: newWorld(t, n), n: n, posts: map[int]string{}}
}

// some is items that anybody lays on the chain.
func (p *play) some() []api.Item {
	var l []api.Item
	for range p.r.Intn(3) {
		switch k := p.r.Intn(9); {
		case k < 5:
			l = append(l, mail(strconv.Itoa(p.r.Intn(50))))
		case k < 6 && p.forced:
			l = append(l, force(p.r.Intn(9)))
		case k < 7:
			l = append(l, api.Item{Kind: api.IBatch, By: 7, Text: "no post"})
		}
	}
	return l
}

func (p *play) mined() api.Mined {
	return api.Mined{Items: p.some(), Take: p.r.Intn(4), Copies: []int{p.r.Intn(9), p.r.Intn(9)}[:p.r.Intn(3)], Salt: p.r.Intn(9)}
}

func (p *play) send() {
	from := p.r.Intn(4)
	x := api.Tx{From: from, Nonce: max(p.nonces[from]+p.r.Intn(4)-1, 0), Fee: p.r.Intn(4), Data: strconv.Itoa(p.r.Intn(2))}
	round := p.w.Now() / p.n.Length
	if who, ok := p.w.Holder(round); ok && p.r.Intn(2) == 0 {
		x.Lane, x.Round, x.Turn = true, round, p.r.Intn(3)
		x, _ = tx.Sign(x)
		x, _ = tx.Hand(x, who)
	} else {
		x, _ = tx.Sign(x)
	}
	s, _ := tx.Text(x)
	p.w.Submit(s)
	p.results = append(p.results, api.Result{})
}

// step lets something happen.
func (p *play) step(crashes bool) {
	w, r := p.w, p.r
	switch k := r.Intn(30); {
	case k < 9:
		p.send()
	case k < 16:
		want(p.t, "tick", w.Tick(), api.OK)
	case k < 22:
		w.Mine(p.mined())
	case k < 24:
		under := r.Intn(p.n.Depth + 1)
		if p.deep {
			under += r.Intn(2)
		}
		l := make([]api.Mined, under+1+r.Intn(2))
		for i := range l {
			l[i] = p.mined()
		}
		w.Turn(under, l, r.Intn(9))
	case k < 25:
		w.Deposit(r.Intn(4), 9)
		w.Bid(bidFor(w.Now()/p.n.Length+1+r.Intn(2), r.Intn(4), r.Intn(9)))
	case k < 27 && crashes:
		w.Arm(r.Intn(12))
	case k < 28 && crashes:
		w.Crash([]int{r.Intn(500), r.Intn(500)})
	case k < 29 && crashes:
		w.Compact()
	default:
		w.Start()
	}
	if !w.Up() && r.Intn(2) == 0 {
		w.Crash([]int{r.Intn(500)})
		w.Start()
	}
}

// see asks whether all that holds at every step does.
func (p *play) see() {
	t, w := p.t, p.w
	told := w.Told()
	if len(told) < len(p.told) || !slices.Equal(told[:len(p.told)], p.told) {
		t.Fatal("what was told is not told any more")
	}
	if w.Halted() && len(told) != len(p.told) {
		t.Fatal("a halted node tells")
	}
	for _, r := range told[len(p.told):] {
		if r.Kind == api.MTx {
			x, _ := tx.Read(r.Body)
			p.nonces[x.From]++
		}
	}
	p.told = told
	p.seeResults()
	for _, m := range w.Made() {
		if s, ok := p.posts[m.Seq]; ok && s != m.Text {
			t.Fatal("two posts of one number")
		}
		p.posts[m.Seq] = m.Text
	}
	s := w.Stream(true)
	halted := w.Halted()
	if !p.deep {
		if halted {
			t.Fatal("halted without a reason")
		}
		if len(s.Messages) < len(p.final) || !slices.Equal(s.Messages[:len(p.final)], p.final) {
			t.Fatal("the final stream has changed")
		}
		p.final = s.Messages
	}
	if !p.forced && !p.deep {
		for i, m := range s.Messages {
			if i >= len(told) || m.Kind != told[i].Kind || m.Body != told[i].Body {
				t.Fatalf("message %d of the final stream was not told so", i)
			}
		}
	}
	p.seeForced(s)
}

func (p *play) seeResults() {
	t, w := p.t, p.w
	for i, before := range p.results {
		now, e := w.Result(i)
		if e != api.OK || before.Done && now != before {
			t.Fatalf("result %d: %v, then %v", i, before, now)
		}
		if now.Done && now.E == api.OK && !before.Done {
			if now.Index >= len(p.told) || p.told[now.Index].Kind != api.MTx {
				t.Fatalf("result %d has no receipt", i)
			}
		}
		if !now.Done && now != (api.Result{}) {
			t.Fatalf("result %d is not done, and says something", i)
		}
	}
	for i := range p.results {
		p.results[i], _ = w.Result(i)
	}
}

// seeForced asks whether a message that a final call reaches stands in the final stream.
func (p *play) seeForced(s api.Stream) {
	blocks := p.w.Blocks(true)
	entries := inbox.Messages(blocks)
	for _, b := range blocks {
		for _, n := range inbox.Forces(b) {
			if reach := inbox.Reach(entries, n, b.Number, p.n.Wait); reach > s.Taken {
				p.t.Fatal("a message that was forced is missing")
			}
		}
	}
}

func TestSafety(t *testing.T) {
	for seed := range 90 {
		p := newPlay(t, int64(seed))
		p.w.Start()
		for range 120 {
			p.step(true)
			p.see()
		}
	}
}

func TestSafetyForced(t *testing.T) {
	for seed := range 60 {
		p := newPlay(t, int64(1000+seed))
		p.forced = true
		p.w.Start()
		for range 120 {
			p.step(true)
			p.see()
		}
	}
}

func TestDeepTurns(t *testing.T) {
	halts := 0
	for seed := range 60 {
		p := newPlay(t, int64(2000+seed))
		p.deep, p.forced = true, seed%2 == 0
		p.w.Start()
		for range 120 {
			p.step(true)
			p.see()
		}
		if p.w.Halted() {
			halts++
		}
	}
	if halts < 30 {
		t.Error("hardly a node has halted", halts)
	}
}

// While one node is up the receipts of transactions stand by keys that do not fall.
func TestKeys(t *testing.T) {
	for seed := range 50 {
		p := newPlay(t, int64(3000+seed))
		p.w.Start()
		for range 150 {
			p.step(false)
			p.see()
		}
		byIndex := map[int]api.Result{}
		for _, r := range p.results {
			if r.Done && r.E == api.OK {
				byIndex[r.Index] = r
			}
		}
		last := api.Result{}
		nonces := [4]int{}
		for i, m := range p.told {
			if m.Kind != api.MTx {
				continue
			}
			r, ok := byIndex[i]
			if !ok || r.At < last.At || r.At == last.At && r.Place < last.Place {
				t.Fatalf("receipt %d: %v behind %v", i, r, last)
			}
			last = r
			x, _ := tx.Read(m.Body)
			if x.Nonce != nonces[x.From] {
				t.Fatalf("nonce %d, not %d", x.Nonce, nonces[x.From])
			}
			nonces[x.From]++
		}
	}
}

// In calm times all that was told is in the final stream within the number of blocks that the document tells.
func TestItComes(t *testing.T) {
	for seed := range 80 {
		p := newPlay(t, int64(4000+seed))
		p.w.Start()
		for range 80 {
			p.step(true)
		}
		for !p.w.Up() {
			p.w.Crash(nil)
			p.w.Start()
		}
		p.w.Crash(nil)
		p.w.Start()
		told := p.w.Told()
		n, m := len(told), p.w.Way()
		rounds := p.n.Rules.Age + (n+2)*(p.n.Patience+3) + m + p.n.Depth + 6
		for range rounds {
			want(t, "tick", p.w.Tick(), api.OK)
			want(t, "mine", p.w.Mine(api.Mined{Take: p.w.Way()}), api.OK)
		}
		s := p.w.Stream(true)
		if len(s.Messages) < n {
			t.Fatalf("seed %d: %d of %d are in the final stream", seed, len(s.Messages), n)
		}
		for i, r := range told {
			if s.Messages[i].Kind != r.Kind || s.Messages[i].Body != r.Body {
				t.Fatalf("message %d was told otherwise", i)
			}
		}
	}
}
