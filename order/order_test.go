package order_test

import (
	"math"
	"math/rand"
	"slices"
	"strings"
	"testing"

	"cavalcade/api"
	"cavalcade/notes"
	"cavalcade/order"
	"cavalcade/tx"
)

const top = 1 << 40

// text is that of a signed transaction.
func text(from, nonce int) string {
	x, _ := tx.Sign(api.Tx{From: from, Nonce: nonce})
	s, e := tx.Text(x)
	if e != api.OK {
		panic("text")
	}
	return s
}

// add adds a message that may be next, and asks for its receipt.
func add(t *testing.T, l *order.Log, kind int, body string, time int) api.Receipt {
	t.Helper()
	want, _ := notes.Link(l.Head(), l.Len(), kind, time, body)
	n := l.Len()
	r, e := l.Add(kind, body, time)
	if r != want || e != api.OK || l.Len() != n+1 || l.Head() != want.Hash {
		t.Errorf("%v, not %v: %d", r, want, e)
	}
	if x, e := l.At(n); x != want || e != api.OK {
		t.Errorf("At(%d): %v, %d", n, x, e)
	}
	return r
}

func refused(t *testing.T, l *order.Log, kind int, body string, time int, e api.Errno) {
	t.Helper()
	before, head := l.From(0), l.Head()
	if r, got := l.Add(kind, body, time); r != (api.Receipt{}) || got != e {
		t.Errorf("%v, %d, not %d", r, got, e)
	}
	if !slices.Equal(before, l.From(0)) || head != l.Head() {
		t.Error("something has changed")
	}
}

func TestExample(t *testing.T) {
	l := order.New()
	if l.Len() != 0 || l.Head() != (api.Hash{}) || len(l.From(0)) != 0 || l.Taken(9) != 0 || l.Next(0) != 0 {
		t.Error("a new log has something")
	}
	add(t, l, api.MDelayed, "a", 3)
	refused(t, l, api.MDelayed, "b", 2, api.ErrOrder)
	if l.Taken(9) != 1 {
		t.Error(l.Taken(9))
	}
}

func TestAdd(t *testing.T) {
	l := order.New()
	refused(t, l, api.MTx, "no transaction", 0, api.ErrForm)
	refused(t, l, api.MTx, "", -1, api.ErrForm)
	refused(t, l, api.MDelayed, "a", -1, api.ErrArg)
	refused(t, l, api.MTx, text(1, 0), math.MinInt, api.ErrArg)
	refused(t, l, api.MDelayed, "a", top+1, api.ErrArg)
	refused(t, l, api.MDelayed, strings.Repeat("a", 657), 0, api.ErrArg)
	refused(t, l, 0, "a", 0, api.ErrArg)
	refused(t, l, 3, text(1, 0), 0, api.ErrArg)
	refused(t, l, -1, "", 0, api.ErrArg)
	refused(t, l, api.MTx, text(1, 1), 0, api.ErrNonce)
	add(t, l, api.MTx, text(1, 0), 5)
	refused(t, l, api.MTx, text(1, 0), 5, api.ErrNonce)
	refused(t, l, api.MTx, text(1, 2), 5, api.ErrNonce)
	refused(t, l, api.MTx, text(2, 1), 5, api.ErrNonce)
	refused(t, l, api.MTx, text(1, 1)+"x", 5, api.ErrForm)
	x, _ := tx.Sign(api.Tx{From: 1, Nonce: 7})
	x.Tag[0] ^= 1
	forged, _ := tx.Text(x)
	refused(t, l, api.MTx, forged, 5, api.ErrTag)
	refused(t, l, api.MTx, forged, 4, api.ErrOrder)
	refused(t, l, api.MTx, "", math.MinInt, api.ErrOrder)
	refused(t, l, 9, "", 4, api.ErrOrder)
	refused(t, l, api.MDelayed, strings.Repeat("a", 657), 5, api.ErrArg)
	add(t, l, api.MTx, text(1, 1), 5)
	add(t, l, api.MDelayed, text(1, 1), 6)
	add(t, l, api.MDelayed, strings.Repeat("a", 656), 6)
	add(t, l, api.MTx, text(63, 0), top)
	if l.Next(1) != 2 || l.Next(63) != 1 || l.Next(0) != 0 || l.Taken(9) != 2 {
		t.Error(l.Next(1), l.Next(63), l.Next(0), l.Taken(9))
	}
	add(t, l, api.MTx, text(0, 0), top)
	refused(t, l, api.MTx, text(0, 0), top, api.ErrNonce)
	add(t, l, api.MTx, text(0, 1), top)
	if l.Next(0) != 2 || l.Taken(9) != 2 {
		t.Error(l.Next(0), l.Taken(9))
	}
	for _, who := range []int{-1, 64, math.MinInt, math.MaxInt} {
		if l.Next(who) != 0 {
			t.Error(who)
		}
	}
}

// mixed is a log of several messages.
func mixed(t *testing.T) *order.Log {
	l := order.New()
	add(t, l, api.MTx, text(1, 0), 0)
	add(t, l, api.MDelayed, "a", 1)
	add(t, l, api.MTx, text(1, 1), 1)
	add(t, l, api.MDelayed, "a", 4)
	add(t, l, api.MDelayed, "", 4)
	add(t, l, api.MTx, text(2, 0), 9)
	return l
}

func TestLooks(t *testing.T) {
	l := mixed(t)
	for i, want := range []int{0, 0, 1, 1, 2, 3, 3, 3} {
		if l.Taken(i) != want {
			t.Errorf("Taken(%d): %d", i, l.Taken(i))
		}
	}
	if l.Taken(-1) != 0 || l.Taken(math.MinInt) != 0 || l.Taken(math.MaxInt) != 3 {
		t.Error(l.Taken(-1), l.Taken(math.MaxInt))
	}
	all := l.From(0)
	prev := api.Hash{}
	for i, r := range all {
		if r.Index != i || r.Prev != prev || i > 0 && r.Time < all[i-1].Time {
			t.Errorf("receipt %d: %v", i, r)
		}
		prev = r.Hash
	}
	for _, c := range [][2]int{{-1, 0}, {math.MinInt, 0}, {0, 0}, {4, 4}, {6, 6}, {7, 6}, {math.MaxInt, 6}} {
		if got := l.From(c[0]); !slices.Equal(got, all[c[1]:]) {
			t.Errorf("From(%d): %d receipts", c[0], len(got))
		}
	}
	for _, i := range []int{-1, 6, math.MinInt, math.MaxInt} {
		if r, e := l.At(i); r != (api.Receipt{}) || e != api.ErrRange {
			t.Errorf("At(%d): %d", i, e)
		}
	}
	l.From(0)[0].Body = "changed"
	if !slices.Equal(l.From(0), all) {
		t.Error("changed")
	}
}

func TestLoad(t *testing.T) {
	l := mixed(t)
	all := l.From(0)
	m := order.New()
	for i, r := range all {
		for j, other := range all {
			if j != i {
				if e := m.Load(other); e != api.ErrSum {
					t.Errorf("%d in the place of %d: %d", j, i, e)
				}
			}
		}
		for _, change := range []func(r *api.Receipt){
			func(r *api.Receipt) { r.Index++ }, func(r *api.Receipt) { r.Kind = 3 - r.Kind }, func(r *api.Receipt) { r.Time++ }, func(r *api.Receipt) { r.Time = -1 },
			func(r *api.Receipt) { r.Body += "x" }, func(r *api.Receipt) { r.Prev[5] ^= 1 }, func(r *api.Receipt) { r.Hash[31] ^= 1 }, func(r *api.Receipt) { r.Kind = 0 },
		} {
			bad := r
			change(&bad)
			if e := m.Load(bad); e != api.ErrSum || m.Len() != i {
				t.Errorf("a changed %d: %d", i, e)
			}
		}
		if e := m.Load(r); e != api.OK || m.Len() != i+1 || m.Head() != r.Hash {
			t.Errorf("%d: %d", i, e)
		}
	}
	if !slices.Equal(m.From(0), all) || m.Next(1) != 2 || m.Next(2) != 1 || m.Taken(9) != 3 || m.Taken(2) != 1 {
		t.Error("loaded as another one")
	}
	a, e := m.Add(api.MTx, text(2, 1), 9)
	if b, f := l.Add(api.MTx, text(2, 1), 9); a != b || e != f || e != api.OK {
		t.Error("goes on as another one")
	}
	// A receipt that is linked rightly, of a message that may not be next.
	for _, c := range []struct {
		kind, time int
		body       string
	}{{1, 9, text(2, 5)}, {1, 9, "x"}, {2, 8, "x"}} {
		r, _ := notes.Link(m.Head(), m.Len(), c.kind, c.time, c.body)
		if e := m.Load(r); e != api.ErrSum {
			t.Errorf("%v: %d", c, e)
		}
	}
}

func TestNil(t *testing.T) {
	var l *order.Log
	if r, e := l.Add(9, "", -1); r != (api.Receipt{}) || e != api.ErrNil {
		t.Error(int(e))
	}
	if e := l.Load(api.Receipt{}); e != api.ErrNil {
		t.Error(int(e))
	}
	if r, e := l.At(-1); r != (api.Receipt{}) || e != api.ErrNil {
		t.Error(int(e))
	}
	if l.Len() != 0 || len(l.From(0)) != 0 || l.Head() != (api.Hash{}) || l.Next(1) != 0 || l.Taken(9) != 0 {
		t.Error("of nil")
	}
}

// A list with one receipt left out, or two exchanged, is loaded up to there alone.
func TestLoadedInOrderAlone(t *testing.T) {
	r := rand.New(rand.NewSource(19))
	all := mixed(t).From(0)
	for range 50 {
		l := slices.Clone(all)
		i := r.Intn(len(l) - 1)
		bad := i
		if r.Intn(2) == 0 {
			l = slices.Delete(l, i, i+1)
		} else {
			j := i + 1 + r.Intn(len(l)-i-1)
			l[i], l[j] = l[j], l[i]
		}
		m := order.New()
		for k, x := range l[:bad+1] {
			if e := m.Load(x); (e == api.OK) != (k < bad) {
				t.Fatalf("%d, of a list spoilt at %d: %d", k, bad, e)
			}
		}
	}
}
