package admit_test

import (
	"math"
	"math/rand"
	"testing"

	"cavalcade/admit"
	"cavalcade/api"
	"cavalcade/tx"
)

const top = 1 << 40

func signed(x api.Tx) api.Tx {
	s, e := tx.Sign(x)
	if e != api.OK {
		panic("sign")
	}
	return s
}

func text(x api.Tx) string {
	s, e := tx.Text(x)
	if e != api.OK {
		panic("text")
	}
	return s
}

func newGate(t *testing.T, floor int) *admit.Gate {
	t.Helper()
	g, e := admit.New(floor)
	if g == nil || e != api.OK {
		t.Fatalf("New(%d): %d", floor, e)
	}
	return g
}

func want(t *testing.T, what string, got, e api.Errno) {
	t.Helper()
	if got != e {
		t.Errorf("%s: %d, not %d", what, got, e)
	}
}

// enter lets a text in, having asked; in is how many should be in then.
func enter(t *testing.T, g *admit.Gate, s string, x api.Tx, e api.Errno, in int) {
	t.Helper()
	before := g.In()
	if y, got := g.Ask(s); y != x || got != e || g.In() != before {
		t.Errorf("Ask: %v, %d, not %d", y, got, e)
	}
	if y, got := g.Enter(s); y != x || got != e || g.In() != in {
		t.Errorf("Enter: %v, %d, not %d; %d are in, not %d", y, got, e, g.In(), in)
	}
}

func TestNew(t *testing.T) {
	for _, floor := range []int{-1, top + 1, math.MinInt, math.MaxInt} {
		if g, e := admit.New(floor); g != nil || e != api.ErrArg {
			t.Errorf("New(%d): %d", floor, e)
		}
	}
	g := newGate(t, top)
	enter(t, g, text(signed(api.Tx{Fee: top})), signed(api.Tx{Fee: top}), api.OK, 1)
	enter(t, g, text(signed(api.Tx{Fee: top - 1})), api.Tx{}, api.ErrFee, 1)
}

func TestNames(t *testing.T) {
	g := newGate(t, 5)
	none := api.Tx{}
	x := signed(api.Tx{From: 1, Fee: 5})
	forged := x
	forged.Tag[3] ^= 1
	poorForged := signed(api.Tx{From: 1, Fee: 4})
	poorForged.Tag[3] ^= 1
	enter(t, g, "", none, api.ErrForm, 0)
	enter(t, g, "any bytes", none, api.ErrForm, 0)
	enter(t, g, text(x)+"x", none, api.ErrForm, 0)
	enter(t, g, text(x)[1:], none, api.ErrForm, 0)
	enter(t, g, text(forged), none, api.ErrTag, 0)
	enter(t, g, text(poorForged), none, api.ErrTag, 0)
	enter(t, g, text(signed(api.Tx{From: 1, Fee: 4})), none, api.ErrFee, 0)
	enter(t, g, text(x), x, api.OK, 1)
	enter(t, g, text(x), none, api.ErrTwice, 1)
	want(t, "done", g.Done(x), api.OK)
	enter(t, g, text(x), none, api.ErrNonce, 0)
	enter(t, g, text(signed(api.Tx{From: 1, Fee: 4})), none, api.ErrFee, 0)
	enter(t, g, text(signed(api.Tx{From: 1, Fee: 9})), none, api.ErrNonce, 0)
	far := signed(api.Tx{From: 1, Fee: 9, Nonce: 7})
	enter(t, g, text(far), far, api.OK, 1)
	other := signed(api.Tx{From: 1, Fee: 8, Nonce: 7})
	enter(t, g, text(other), other, api.OK, 2)
	laned := signed(api.Tx{From: 1, Fee: 8, Nonce: 7, Lane: true})
	enter(t, g, text(laned), laned, api.OK, 3)
	handed, _ := tx.Hand(laned, 3)
	enter(t, g, text(handed), handed, api.OK, 4)
	if g.Next(1) != 1 || g.Next(2) != 0 {
		t.Error(g.Next(1), g.Next(2))
	}
}

func TestLeaveAndDone(t *testing.T) {
	g := newGate(t, 0)
	x, y := signed(api.Tx{From: 63}), signed(api.Tx{From: 63, Nonce: 1})
	want(t, "leave", g.Leave(x), api.ErrNone)
	want(t, "done", g.Done(x), api.ErrNone)
	want(t, "leave of none that may be", g.Leave(api.Tx{From: 64}), api.ErrNone)
	want(t, "done of none that may be", g.Done(api.Tx{Nonce: -1}), api.ErrNone)
	g.Enter(text(y))
	unsigned := y
	unsigned.Tag = api.Hash{}
	want(t, "done too soon", g.Done(y), api.ErrOrder)
	want(t, "done of another one", g.Done(unsigned), api.ErrNone)
	want(t, "leave of another one", g.Leave(unsigned), api.ErrNone)
	want(t, "done of one that is not in", g.Done(x), api.ErrNone)
	if g.In() != 1 || g.Next(63) != 0 {
		t.Error(g.In(), g.Next(63))
	}
	want(t, "leave", g.Leave(y), api.OK)
	want(t, "leave again", g.Leave(y), api.ErrNone)
	enter(t, g, text(y), y, api.OK, 1)
	enter(t, g, text(x), x, api.OK, 2)
	want(t, "done", g.Done(x), api.OK)
	want(t, "done again", g.Done(x), api.ErrNone)
	want(t, "leave what is done", g.Leave(x), api.ErrNone)
	want(t, "done", g.Done(y), api.OK)
	if g.In() != 0 || g.Next(63) != 2 {
		t.Error(g.In(), g.Next(63))
	}
	// What is in, and has a nonce that was used, is not done any more.
	a, b := signed(api.Tx{From: 2}), signed(api.Tx{From: 2, Fee: 1})
	g.Enter(text(a))
	g.Enter(text(b))
	g.Done(a)
	want(t, "done of a used nonce", g.Done(b), api.ErrOrder)
	enter(t, g, text(b), api.Tx{}, api.ErrNonce, 1)
	want(t, "leave", g.Leave(b), api.OK)
}

func TestNext(t *testing.T) {
	g := newGate(t, 0)
	x := signed(api.Tx{From: 0})
	g.Enter(text(x))
	g.Done(x)
	for _, who := range []int{-1, 64, math.MinInt, math.MaxInt, 1, 63} {
		if g.Next(who) != 0 {
			t.Error(who)
		}
	}
	if g.Next(0) != 1 {
		t.Error(g.Next(0))
	}
}

func TestNil(t *testing.T) {
	var g *admit.Gate
	for _, call := range []func(s string) (api.Tx, api.Errno){g.Ask, g.Enter} {
		if x, e := call(""); x != (api.Tx{}) || e != api.ErrNil {
			t.Error(int(e))
		}
	}
	want(t, "leave", g.Leave(api.Tx{From: -1}), api.ErrNil)
	want(t, "done", g.Done(api.Tx{From: -1}), api.ErrNil)
	if g.Next(0) != 0 || g.In() != 0 {
		t.Error("of nil")
	}
}

// What is done of one account has the nonces 0, 1, 2, ..; what was done is refused for ever.
func TestRising(t *testing.T) {
	r := rand.New(rand.NewSource(17))
	g := newGate(t, 1)
	var all, in, done []api.Tx
	for from := range 3 {
		for nonce := range 4 {
			for fee := range 3 {
				all = append(all, signed(api.Tx{From: from, Nonce: nonce, Fee: fee}))
			}
		}
	}
	next := [3]int{}
	for range 5000 {
		x := all[r.Intn(len(all))]
		at := -1
		for i, y := range in {
			if y == x {
				at = i
			}
		}
		switch r.Intn(3) {
		case 0:
			e := api.OK
			switch {
			case x.Fee < 1:
				e = api.ErrFee
			case x.Nonce < next[x.From]:
				e = api.ErrNonce
			case at >= 0:
				e = api.ErrTwice
			}
			if _, got := g.Enter(text(x)); got != e {
				t.Fatal(int(got), int(e))
			}
			if e == api.OK {
				in = append(in, x)
			}
			continue
		case 1:
			if r.Intn(10) > 0 {
				continue
			}
			e := api.OK
			switch {
			case at < 0:
				e = api.ErrNone
			case x.Nonce != next[x.From]:
				e = api.ErrOrder
			}
			want(t, "done", g.Done(x), e)
			if e != api.OK {
				continue
			}
			next[x.From]++
			done = append(done, x)
		case 2:
			if got := g.Leave(x); (got == api.OK) != (at >= 0) {
				t.Fatal(int(got))
			}
		}
		if at >= 0 {
			in = append(in[:at:at], in[at+1:]...)
		}
		for from, n := range next {
			if g.Next(from) != n || g.In() != len(in) {
				t.Fatal(from, g.Next(from), n, g.In(), len(in))
			}
		}
	}
	if len(done) < 6 {
		t.Fatal("too little was done")
	}
	for _, x := range done {
		enter(t, g, text(x), api.Tx{}, api.ErrNonce, len(in))
	}
}
