package rollup_test

import (
	"math"
	"slices"
	"strconv"
	"strings"
	"testing"

	"cavalcade/api"
	"cavalcade/box"
	"cavalcade/cut"
	"cavalcade/derive"
	"cavalcade/inbox"
	"cavalcade/notes"
	"cavalcade/rollup"
	"cavalcade/tx"
)

const top = 1 << 40

// net is a plain one: depth 1, wait 4, rounds of 5, no least fee, Delay 0, Stay 9.
func net() api.Net {
	return api.Net{Depth: 1, Wait: 4, Length: 5, Pool: 9, Stay: 9, Rules: api.Rules{Parts: 4, Bytes: 700, Age: 2, Lag: 2}, Patience: 3, Window: 2}
}

func newWorld(t *testing.T, n api.Net) *rollup.World {
	t.Helper()
	w, e := rollup.New(n)
	if w == nil || e != api.OK {
		t.Fatalf("New(%v): %d", n, e)
	}
	return w
}

// started is a world whose node is up.
func started(t *testing.T, n api.Net) *rollup.World {
	t.Helper()
	w := newWorld(t, n)
	want(t, "start", w.Start(), api.OK)
	return w
}

func want(t *testing.T, what string, got, e api.Errno) {
	t.Helper()
	if got != e {
		t.Errorf("%s: %d, not %d", what, got, e)
	}
}

func text(x api.Tx) string {
	s, e := tx.Sign(x)
	if e != api.OK {
		panic("sign")
	}
	b, _ := tx.Text(s)
	return b
}

// plain is a signed transaction's text.
func plain(from, nonce, fee int) string { return text(api.Tx{From: from, Nonce: nonce, Fee: fee}) }

// laned is one that somebody hands to the lane.
func laned(from, nonce, round, turn, by int) string {
	x, _ := tx.Sign(api.Tx{From: from, Nonce: nonce, Lane: true, Round: round, Turn: turn})
	x, e := tx.Hand(x, by)
	if e != api.OK {
		panic("hand")
	}
	s, _ := tx.Text(x)
	return s
}

func mail(s string) api.Item { return api.Item{Kind: api.IDelayed, By: 3, Text: s} }

func force(n int) api.Item { return api.Item{Kind: api.IForce, N: n} }

// send hands a text in, and tells its number.
func send(t *testing.T, w *rollup.World, s string) int {
	t.Helper()
	i := w.Submit(s)
	if _, e := w.Result(i); e != api.OK {
		t.Fatalf("no result %d: %d", i, e)
	}
	return i
}

func result(t *testing.T, w *rollup.World, i int, r api.Result) {
	t.Helper()
	if got, e := w.Result(i); got != r || e != api.OK {
		t.Errorf("result %d: %v, not %v: %d", i, got, r, e)
	}
}

func waits(t *testing.T, w *rollup.World, i int) {
	t.Helper()
	result(t, w, i, api.Result{})
}

func ended(t *testing.T, w *rollup.World, i int, e api.Errno) {
	t.Helper()
	result(t, w, i, api.Result{Done: true, E: e})
}

func got(t *testing.T, w *rollup.World, i, index, at, place int) {
	t.Helper()
	result(t, w, i, api.Result{Done: true, Index: index, At: at, Place: place})
}

func ticks(t *testing.T, w *rollup.World, n int) {
	t.Helper()
	for range n {
		want(t, "tick", w.Tick(), api.OK)
	}
}

func mine(t *testing.T, w *rollup.World, take int, items ...api.Item) {
	t.Helper()
	want(t, "mine", w.Mine(api.Mined{Items: items, Take: take}), api.OK)
}

// counts asks for how many were told, cut, made, and are on their way.
func counts(t *testing.T, w *rollup.World, told, cuts, made, way int) {
	t.Helper()
	if len(w.Told()) != told || len(w.Cuts()) != cuts || len(w.Made()) != made || w.Way() != way {
		t.Errorf("told %d, cut %d, made %d, on their way %d; not %d, %d, %d, %d", len(w.Told()), len(w.Cuts()), len(w.Made()), w.Way(), told, cuts, made, way)
	}
}

func TestNew(t *testing.T) {
	good := []func(n *api.Net){
		func(n *api.Net) {},
		func(n *api.Net) {
			*n = api.Net{Length: 1, Pool: 1, Rules: api.Rules{Parts: 1, Bytes: 700}, Patience: 1, Window: 1}
		},
		func(n *api.Net) {
			*n = api.Net{Depth: 64, Wait: 4096, Length: top, Floor: top, Reserve: top, Pool: 256, Delay: 1000, Stay: 1000, Rules: api.Rules{Parts: 64, Bytes: 8192, Age: top, Lag: top}, Patience: 4096, Window: 64}
		},
	}
	for i, change := range good {
		n := net()
		change(&n)
		if w, e := rollup.New(n); w == nil || e != api.OK || w.Up() || w.Now() != 0 || w.Height() != 0 {
			t.Errorf("%d: %d", i, e)
		}
	}
	bad := []func(n *api.Net, low bool, by int){
		func(n *api.Net, low bool, by int) { n.Depth = pick(low, -1, 65, by) },
		func(n *api.Net, low bool, by int) { n.Wait = pick(low, -1, 4097, by) },
		func(n *api.Net, low bool, by int) { n.Length = pick(low, 0, top+1, by) },
		func(n *api.Net, low bool, by int) { n.Floor = pick(low, -1, top+1, by) },
		func(n *api.Net, low bool, by int) { n.Reserve = pick(low, -1, top+1, by) },
		func(n *api.Net, low bool, by int) { n.Pool = pick(low, 0, 257, by) },
		func(n *api.Net, low bool, by int) { n.Delay = pick(low, -1, 1001, by) },
		func(n *api.Net, low bool, by int) { n.Stay = pick(low, -1, 1001, by) },
		func(n *api.Net, low bool, by int) { n.Rules.Parts = pick(low, 0, 65, by) },
		func(n *api.Net, low bool, by int) { n.Rules.Bytes = pick(low, 699, 8193, by) },
		func(n *api.Net, low bool, by int) { n.Rules.Age = pick(low, -1, top+1, by) },
		func(n *api.Net, low bool, by int) { n.Rules.Lag = pick(low, -1, top+1, by) },
		func(n *api.Net, low bool, by int) { n.Patience = pick(low, 0, 4097, by) },
		func(n *api.Net, low bool, by int) { n.Window = pick(low, 0, 65, by) },
	}
	for i, change := range bad {
		for _, low := range []bool{true, false} {
			for by := range 2 {
				n := net()
				change(&n, low, by)
				if w, e := rollup.New(n); w != nil || e != api.ErrArg {
					t.Errorf("%d, %v: %d", i, n, e)
				}
			}
		}
	}
}

// pick is a number just below or above what may be, or the least or greatest one.
func pick(low bool, below, above, by int) int {
	switch {
	case low && by == 0:
		return below
	case low:
		return math.MinInt
	case by == 0:
		return above
	}
	return math.MaxInt
}

func TestExample(t *testing.T) {
	w := started(t, net())
	s := plain(1, 0, 2)
	i := send(t, w, s)
	waits(t, w, i)
	ticks(t, w, 1)
	got(t, w, i, 0, 0, 0)
	r, _ := notes.Link(api.Hash{}, 0, api.MTx, 0, s)
	if l := w.Told(); !slices.Equal(l, []api.Receipt{r}) {
		t.Error(l)
	}
	ticks(t, w, 1)
	counts(t, w, 1, 0, 0, 0)
	ticks(t, w, 1)
	counts(t, w, 1, 1, 0, 0)
	if l := w.Cuts(); l[0] != (api.Cut{Count: 1}) {
		t.Error(l)
	}
	mine(t, w, 9)
	counts(t, w, 1, 1, 1, 1)
	b, _ := cut.Make(api.Cut{Count: 1}, []api.Receipt{r})
	post, _ := box.Write(b)
	if l := w.Made(); l[0] != (api.Made{Text: post}) {
		t.Error(l)
	}
	mine(t, w, 9, mail("m"))
	counts(t, w, 1, 1, 1, 0)
	if l := w.Blocks(false); len(l) != 3 || !slices.Equal(l[2].Items, []api.Item{mail("m"), {Kind: api.IBatch, By: 64, Text: post}}) {
		t.Error(l)
	}
	if s := w.Stream(true); len(s.Messages) != 0 || s.Seq != 0 || len(w.Blocks(true)) != 2 {
		t.Error(s)
	}
	if x := w.Stream(false); !slices.Equal(x.Messages, []api.Message{{Kind: api.MTx, Body: s}}) || x.Seq != 1 || x.Taken != 0 {
		t.Error(x)
	}
	mine(t, w, 0)
	if x := w.Stream(true); len(x.Messages) != 1 || w.Height() != 3 || w.Now() != 3 {
		t.Error(x)
	}
}

func TestResult(t *testing.T) {
	w := newWorld(t, net())
	for _, i := range []int{-1, 0, math.MinInt, math.MaxInt} {
		if r, e := w.Result(i); r != (api.Result{}) || e != api.ErrRange {
			t.Errorf("%d: %d", i, e)
		}
	}
	for i := range 3 {
		if w.Submit("") != i {
			t.Error(i)
		}
	}
	if _, e := w.Result(3); e != api.ErrRange {
		t.Error(int(e))
	}
}

func TestSubmitErrors(t *testing.T) {
	n := net()
	n.Floor, n.Pool = 2, 2
	w := newWorld(t, n)
	ended(t, w, send(t, w, plain(1, 0, 2)), api.ErrDown)
	ended(t, w, send(t, w, "x"), api.ErrDown)
	want(t, "start", w.Start(), api.OK)
	ended(t, w, send(t, w, ""), api.ErrForm)
	x, _ := tx.Sign(api.Tx{From: 1, Fee: 2})
	x.Tag[9] ^= 1
	forged, _ := tx.Text(x)
	ended(t, w, send(t, w, forged), api.ErrTag)
	ended(t, w, send(t, w, plain(1, 0, 1)), api.ErrFee)
	a := send(t, w, plain(1, 0, 2))
	waits(t, w, a)
	ended(t, w, send(t, w, plain(1, 0, 2)), api.ErrTwice)
	// The pool has another one of that nonce; this one leaves the gate again, so that it is answered likewise.
	for range 2 {
		ended(t, w, send(t, w, plain(1, 0, 3)), api.ErrTwice)
	}
	b := send(t, w, plain(2, 0, 3))
	for range 2 {
		ended(t, w, send(t, w, plain(3, 0, 2)), api.ErrFull)
	}
	waits(t, w, a)
	c := send(t, w, plain(3, 0, 4))
	ended(t, w, a, api.ErrFull)
	waits(t, w, b)
	waits(t, w, c)
	// What was taken out has left the gate: it is the pool that refuses it.
	ended(t, w, send(t, w, plain(1, 0, 2)), api.ErrFull)
	d := send(t, w, plain(1, 0, 5))
	ended(t, w, b, api.ErrFull)
	ticks(t, w, 1)
	got(t, w, c, 0, 0, c)
	got(t, w, d, 1, 0, d)
	ended(t, w, send(t, w, plain(1, 0, 5)), api.ErrNonce)
	ended(t, w, send(t, w, plain(1, 0, 9)), api.ErrNonce)
	for i := range 5 {
		if i > 1 {
			mine(t, w, 0)
		}
	}
	want(t, "turn", w.Turn(2, make([]api.Mined, 3), 5), api.OK)
	ended(t, w, send(t, w, "x"), api.ErrHalt)
	want(t, "crash", w.Crash(nil), api.OK)
	ended(t, w, send(t, w, "x"), api.ErrDown)
}

// Transactions stand by their keys, and an account's nonces rise.
func TestOrder(t *testing.T) {
	n := net()
	n.Delay = 2
	w := started(t, n)
	a1 := send(t, w, plain(1, 1, 0))
	b := send(t, w, plain(2, 0, 0))
	ticks(t, w, 1)
	a0 := send(t, w, plain(1, 0, 0))
	c := send(t, w, plain(3, 0, 9))
	ticks(t, w, 1)
	for _, i := range []int{a1, b, a0, c} {
		waits(t, w, i)
	}
	ticks(t, w, 1)
	got(t, w, b, 0, 2, b)
	waits(t, w, a1)
	ticks(t, w, 1)
	got(t, w, a0, 1, 3, a0)
	got(t, w, a1, 2, 3, a0)
	got(t, w, c, 3, 3, c)
	l := w.Told()
	if len(l) != 4 || l[0].Time != 2 || l[1].Time != 3 || l[2].Body != plain(1, 1, 0) {
		t.Error(l)
	}
}

func TestGone(t *testing.T) {
	n := net()
	n.Stay = 2
	w := started(t, n)
	i := send(t, w, plain(1, 1, 0))
	ticks(t, w, 3)
	waits(t, w, i)
	ticks(t, w, 1)
	ended(t, w, i, api.ErrGone)
	// It has left the gate, and the pool.
	j := send(t, w, plain(1, 1, 0))
	k := send(t, w, plain(1, 0, 0))
	ticks(t, w, 1)
	got(t, w, k, 0, 4, k)
	got(t, w, j, 1, 4, k)
	ended(t, w, i, api.ErrGone)
	// Nothing stays, but what is ready at once goes.
	n.Stay = 0
	w = started(t, n)
	i, j = send(t, w, plain(1, 0, 0)), send(t, w, plain(2, 1, 0))
	ticks(t, w, 1)
	got(t, w, i, 0, 0, i)
	waits(t, w, j)
	ticks(t, w, 1)
	ended(t, w, j, api.ErrGone)
}

func TestLane(t *testing.T) {
	n := net()
	n.Delay, n.Reserve, n.Stay = 3, 2, 20
	w := started(t, n)
	bid := bidFor
	want(t, "deposit", w.Deposit(1, 20), api.OK)
	want(t, "deposit", w.Deposit(2, 20), api.OK)
	want(t, "deposit by nobody", w.Deposit(64, 1), api.ErrWho)
	want(t, "withdraw", w.Withdraw(2, 21), api.ErrFunds)
	want(t, "withdraw", w.Withdraw(2, 5), api.OK)
	want(t, "bid", w.Bid(bid(0, 1, 9)), api.ErrLate)
	want(t, "bid", w.Bid(bid(1, 1, 1)), api.ErrFee)
	want(t, "bid", w.Bid(bid(1, 1, 9)), api.OK)
	want(t, "bid", w.Bid(bid(1, 2, 7)), api.OK)
	want(t, "bid", w.Bid(bid(1, 2, 8)), api.ErrTwice)
	want(t, "bid", w.Bid(bid(2, 2, 8)), api.OK)
	want(t, "bid", w.Bid(api.Bid{}), api.ErrTag)
	ended(t, w, send(t, w, laned(5, 0, 0, 0, 1)), api.ErrNone)
	ended(t, w, send(t, w, laned(5, 0, 1, 0, 1)), api.ErrRound)
	slow := send(t, w, plain(4, 0, 0))
	ticks(t, w, 4)
	got(t, w, slow, 0, 3, slow)
	if _, ok := w.Holder(1); ok || w.Has(1) != 20 {
		t.Error("the auction is closed too soon")
	}
	ticks(t, w, 1)
	if who, ok := w.Holder(1); who != 1 || !ok || w.Has(1) != 13 || w.Has(2) != 15 {
		t.Error(who, ok, w.Has(1), w.Has(2))
	}
	if _, ok := w.Holder(2); ok {
		t.Error("round 2 is held")
	}
	want(t, "late", w.Bid(bid(1, 3, 9)), api.ErrLate)
	slow = send(t, w, plain(4, 1, 0))
	ended(t, w, send(t, w, laned(5, 0, 1, 0, 2)), api.ErrTag)
	ended(t, w, send(t, w, laned(5, 0, 1, 1, 1)), api.ErrTurn)
	fast := send(t, w, laned(5, 0, 1, 0, 1))
	ended(t, w, send(t, w, laned(6, 0, 1, 0, 1)), api.ErrTurn)
	// What the lane refuses leaves the gate again, what the pool refuses takes no turn.
	second := send(t, w, laned(6, 0, 1, 1, 1))
	ended(t, w, send(t, w, laned(6, 0, 1, 2, 1)), api.ErrTwice)
	third := send(t, w, laned(6, 1, 1, 2, 1))
	ticks(t, w, 1)
	got(t, w, fast, 1, 5, fast)
	got(t, w, second, 2, 5, second)
	got(t, w, third, 3, 5, third)
	waits(t, w, slow)
	want(t, "give", w.Give(1, 2, 3), api.ErrTag)
	want(t, "give", w.Give(1, 1, 3), api.OK)
	ended(t, w, send(t, w, laned(6, 2, 1, 3, 1)), api.ErrTag)
	fourth := send(t, w, laned(6, 2, 1, 3, 3))
	ticks(t, w, 1)
	got(t, w, fourth, 4, 6, fourth)
	// The lane stays, whatever becomes of the node; rounds begin while it is down.
	want(t, "crash", w.Crash(nil), api.OK)
	if who, ok := w.Holder(1); who != 3 || !ok {
		t.Error(who, ok)
	}
	ticks(t, w, 3)
	if who, ok := w.Holder(2); who != 2 || !ok || w.Has(2) != 13 || w.Now() != 10 {
		t.Error(who, ok, w.Has(2), w.Now())
	}
	want(t, "late", w.Give(1, 3, 1), api.ErrLate)
	want(t, "start", w.Start(), api.OK)
	ended(t, w, send(t, w, laned(6, 3, 1, 4, 3)), api.ErrRound)
	i := send(t, w, laned(6, 3, 2, 0, 2))
	ticks(t, w, 1)
	got(t, w, i, 5, 10, i)
}

// The inbox's messages are taken in order, when their blocks are final, ahead of what waits.
func TestInbox(t *testing.T) {
	w := started(t, net())
	mine(t, w, 0, mail("a"), mail("b"))
	ticks(t, w, 1)
	counts(t, w, 0, 0, 0, 0)
	mine(t, w, 0, mail("c"))
	i := send(t, w, plain(1, 0, 0))
	ticks(t, w, 1)
	got(t, w, i, 2, 1, i)
	l := w.Told()
	for n, s := range []string{"a", "b"} {
		if want := derive.Delayed(api.Entry{By: 3, Text: s}).Body; l[n].Kind != api.MDelayed || l[n].Body != want || l[n].Time != 1 {
			t.Error(l[n])
		}
	}
	ticks(t, w, 1)
	counts(t, w, 3, 0, 0, 0)
	mine(t, w, 0)
	ticks(t, w, 1)
	counts(t, w, 4, 1, 0, 0)
	if l := w.Cuts(); l[0] != (api.Cut{Count: 4}) {
		t.Error(l)
	}
	mine(t, w, 0)
	mine(t, w, 1)
	mine(t, w, 0)
	if s := w.Stream(true); len(s.Messages) != 4 || s.Taken != 3 || s.Messages[3].Body != derive.Delayed(api.Entry{By: 3, Text: "c"}).Body {
		t.Error(s)
	}
}

// Cuts are made by the rules; Lag counts for the inbox's messages.
func TestCuts(t *testing.T) {
	n := net()
	n.Rules = api.Rules{Parts: 2, Bytes: 700, Age: 100, Lag: 1}
	w := started(t, n)
	for i := range 5 {
		send(t, w, plain(1, i, 0))
	}
	ticks(t, w, 1)
	if l := w.Cuts(); !slices.Equal(l, []api.Cut{{Count: 2}, {Seq: 1, First: 2, Count: 2}}) {
		t.Error(l)
	}
	mine(t, w, 0, mail("m"))
	mine(t, w, 0)
	ticks(t, w, 1)
	if l := w.Cuts(); len(l) != 3 || l[2] != (api.Cut{Seq: 2, First: 4, Count: 2}) {
		t.Error(l)
	}
	mine(t, w, 0, mail("n"))
	mine(t, w, 0)
	ticks(t, w, 1)
	if len(w.Cuts()) != 3 {
		t.Error(w.Cuts())
	}
	ticks(t, w, 1)
	if l := w.Cuts(); len(l) != 4 || l[3] != (api.Cut{Seq: 3, First: 6, Before: 1, Count: 1}) {
		t.Error(l)
	}
}

func TestNil(t *testing.T) {
	var w *rollup.World
	if w.Submit("x") != 0 {
		t.Error("a number")
	}
	if r, e := w.Result(0); r != (api.Result{}) || e != api.ErrNil {
		t.Error(int(e))
	}
	for i, e := range []api.Errno{
		w.Tick(), w.Mine(api.Mined{}), w.Turn(-1, nil, -1), w.Start(), w.Crash(nil), w.Arm(-1), w.Compact(), w.Deposit(-1, -1), w.Withdraw(-1, -1), w.Bid(api.Bid{By: -1}), w.Give(-1, -1, -1),
	} {
		want(t, strconv.Itoa(i), e, api.ErrNil)
	}
	if w.Now() != 0 || w.Up() || w.Halted() || w.Way() != 0 || w.Height() != 0 || w.Has(1) != 0 || len(w.Told()) != 0 || len(w.Cuts()) != 0 || len(w.Made()) != 0 || len(w.Blocks(true)) != 0 || len(w.Blocks(false)) != 0 {
		t.Error("of nil")
	}
	if who, ok := w.Holder(0); who != 0 || ok {
		t.Error(who)
	}
	if s := w.Stream(true); len(s.Messages) != 0 || s.Taken != 0 || s.Seq != 0 {
		t.Error(s)
	}
}

// What is told is told by lists of its own.
func TestApart(t *testing.T) {
	w := started(t, net())
	for i := range 4 {
		send(t, w, plain(1, i, 0))
	}
	ticks(t, w, 1)
	items := []api.Item{mail("a"), mail("spare")}
	mine(t, w, 0, items[:1]...)
	if items[1] != mail("spare") {
		t.Error("spare room was used")
	}
	mine(t, w, 1, items[:1]...)
	if items[1] != mail("spare") {
		t.Error("spare room was used")
	}
	w.Told()[0].Body = "x"
	w.Cuts()[0].Count = 9
	w.Made()[0].Text = "x"
	w.Blocks(false)[1].Items[0].Text = "x"
	items[0].Text = "x"
	if w.Told()[0].Body != plain(1, 0, 0) || w.Cuts()[0].Count != 4 || w.Made()[0].Text == "x" || w.Blocks(false)[1].Items[0] != mail("a") {
		t.Error("changed")
	}
}

// Posts are handed over in order, within the window, and again behind Patience blocks.
func TestPosts(t *testing.T) {
	n := net()
	n.Rules.Parts = 1
	w := started(t, n)
	for i := range 4 {
		send(t, w, plain(1, i, 0))
	}
	ticks(t, w, 1)
	counts(t, w, 4, 4, 0, 0)
	mine(t, w, 9)
	counts(t, w, 4, 4, 2, 2)
	mine(t, w, 0)
	mine(t, w, 0)
	counts(t, w, 4, 4, 2, 2)
	// They are still on their way: they are made again, and are so once.
	mine(t, w, 0)
	if w.Way() != 2 {
		t.Error(w.Way())
	}
	mine(t, w, 1)
	if s := w.Stream(false); s.Seq != 1 || w.Way() != 2 {
		t.Error(s.Seq, w.Way())
	}
	// The one that had landed is turned away; it is handed over again.
	want(t, "turn", w.Turn(1, []api.Mined{{}, {}}, 1), api.OK)
	if s := w.Stream(false); s.Seq != 0 || w.Way() != 3 {
		t.Error(s.Seq, w.Way())
	}
	seqs := map[int]string{}
	for _, m := range w.Made() {
		if s, ok := seqs[m.Seq]; ok && s != m.Text {
			t.Error("two posts of one number")
		}
		seqs[m.Seq] = m.Text
	}
	mine(t, w, 9)
	mine(t, w, 9)
	mine(t, w, 9)
	if s := w.Stream(false); s.Seq != 4 || w.Way() != 0 {
		t.Error(s.Seq, w.Way())
	}
}

func TestCopies(t *testing.T) {
	n := net()
	n.Rules.Parts = 1
	w := started(t, n)
	send(t, w, plain(1, 0, 0))
	send(t, w, plain(1, 1, 0))
	ticks(t, w, 1)
	mine(t, w, 0)
	m := w.Made()
	want(t, "mine", w.Mine(api.Mined{Items: []api.Item{mail("m")}, Take: 1, Copies: []int{1, 7, -1, 0, 1, math.MaxInt, math.MinInt}, Salt: 5}), api.OK)
	item := func(by, i int) api.Item { return api.Item{Kind: api.IBatch, By: by, Text: m[i].Text} }
	l := w.Blocks(false)
	if b := l[2]; b.Salt != 5 || !slices.Equal(b.Items, []api.Item{mail("m"), item(64, 0), item(0, 1), item(0, 0), item(0, 1)}) {
		t.Error(b)
	}
	if w.Way() != 1 || w.Stream(false).Seq != 2 {
		t.Error(w.Way(), w.Stream(false).Seq)
	}
	want(t, "none to take", w.Mine(api.Mined{Take: math.MinInt}), api.OK)
	if w.Way() != 1 || len(w.Blocks(false)[3].Items) != 0 {
		t.Error(w.Way())
	}
	want(t, "all", w.Mine(api.Mined{Take: math.MaxInt}), api.OK)
	if w.Way() != 0 || len(w.Blocks(false)[4].Items) != 1 {
		t.Error(w.Way())
	}
}

func TestMineAndTurnErrors(t *testing.T) {
	n := net()
	n.Rules.Parts, n.Window = 1, 9
	w := started(t, n)
	for i := range 3 {
		send(t, w, plain(1, i, 0))
	}
	ticks(t, w, 1)
	mine(t, w, 0)
	many := slices.Repeat([]api.Item{mail("m")}, 31)
	big := []api.Item{mail(strings.Repeat("b", 65000)), mail(strings.Repeat("b", 600))}
	for i, m := range []struct {
		m api.Mined
		e api.Errno
	}{
		{api.Mined{Salt: -1, Take: 3}, api.ErrArg}, {api.Mined{Salt: top + 1}, api.ErrArg}, {api.Mined{Items: []api.Item{{}}, Take: 1}, api.ErrArg}, {api.Mined{Items: many, Take: 2}, api.ErrArg},
		{api.Mined{Items: many, Take: 1, Copies: []int{0}}, api.ErrArg}, {api.Mined{Items: big, Take: 1}, api.ErrBig},
	} {
		want(t, strconv.Itoa(i), w.Mine(m.m), m.e)
		if w.Way() != 3 || w.Height() != 1 {
			t.Errorf("%d: %d, %d", i, w.Way(), w.Height())
		}
	}
	for i, m := range []struct {
		under int
		l     []api.Mined
		salt  int
		e     api.Errno
	}{
		{-1, nil, 0, api.ErrArg}, {2, nil, 0, api.ErrDeep}, {math.MaxInt, make([]api.Mined, 3), 0, api.ErrDeep}, {1, []api.Mined{{Take: 1}}, 0, api.ErrArg}, {0, nil, 0, api.ErrArg}, {1, []api.Mined{{Take: 1}, {}}, -1, api.ErrArg},
		{1, []api.Mined{{Take: 1}, {Take: 1, Items: []api.Item{{}}}}, 0, api.ErrArg}, {1, []api.Mined{{Take: 1}, {Items: big}}, 0, api.ErrBig}, {0, make([]api.Mined, 4096), 0, api.ErrFull},
		{1, []api.Mined{{Take: 1}, {Take: 1, Items: many[1:]}, {Take: 1, Items: many}}, 3, api.OK},
	} {
		want(t, strconv.Itoa(i), w.Turn(m.under, m.l, m.salt), m.e)
		if m.e != api.OK && (w.Way() != 3 || w.Height() != 1) {
			t.Errorf("%d: %d, %d", i, w.Way(), w.Height())
		}
	}
	l := w.Blocks(false)
	if len(l) != 4 || len(l[1].Items) != 1 || len(l[2].Items) != 31 || len(l[3].Items) != 32 || w.Way() != 0 {
		t.Fatal(len(l), w.Way())
	}
	for i, b := range l[1:] {
		last := b.Items[len(b.Items)-1]
		x, e := box.Read(last.Text)
		if b.Salt != 3 || last.By != 64 || x.Seq != i || e != api.OK {
			t.Errorf("block %d: %d, %d: %d", i, b.Salt, last.By, e)
		}
	}
}

func TestFullChain(t *testing.T) {
	w := newWorld(t, net())
	want(t, "turn", w.Turn(0, make([]api.Mined, 4096), 0), api.OK)
	want(t, "mine", w.Mine(api.Mined{Salt: -1}), api.ErrFull)
	if w.Height() != 4096 || len(w.Blocks(true)) != 4096 || len(w.Blocks(false)) != 4097 {
		t.Error(w.Height())
	}
}

// Forced messages stand in the stream, whatever the node does.
func TestForced(t *testing.T) {
	w := newWorld(t, net())
	mine(t, w, 0, mail("a"), mail("b"))
	for range 3 {
		mine(t, w, 0, force(1))
	}
	if s := w.Stream(false); len(s.Messages) != 0 {
		t.Error(s)
	}
	mine(t, w, 0, force(1))
	if s := w.Stream(false); len(s.Messages) != 1 || s.Taken != 1 || len(w.Stream(true).Messages) != 0 {
		t.Error(s)
	}
	mine(t, w, 0, force(9))
	mine(t, w, 0)
	if s := w.Stream(true); len(s.Messages) != 2 || s.Taken != 2 || len(inbox.Messages(w.Blocks(true))) != 2 {
		t.Error(s)
	}
}

// bidFor is a signed bid.
func bidFor(round, by, amount int) api.Bid {
	b, e := notes.SignBid(api.Bid{Round: round, By: by, Amount: amount})
	if e != api.OK {
		panic("bid")
	}
	return b
}
