package lane_test

import (
	"math"
	"strings"
	"testing"

	"cavalcade/api"
	"cavalcade/lane"
	"cavalcade/tx"
)

const top = 1 << 40

func newLane(t *testing.T, length int) *lane.Lane {
	t.Helper()
	l, e := lane.New(length)
	if l == nil || e != api.OK {
		t.Fatalf("New(%d): %d", length, e)
	}
	return l
}

func want(t *testing.T, what string, got, e api.Errno) {
	t.Helper()
	if got != e {
		t.Errorf("%s: %d, not %d", what, got, e)
	}
}

func holds(t *testing.T, l *lane.Lane, round, who, turn int) {
	t.Helper()
	if h, ok := l.Holder(round); h != who || !ok || l.Turn(round) != turn {
		t.Errorf("round %d: %d, %v, turn %d, not %d, turn %d", round, h, ok, l.Turn(round), who, turn)
	}
}

func free(t *testing.T, l *lane.Lane, round int) {
	t.Helper()
	if h, ok := l.Holder(round); h != 0 || ok || l.Turn(round) != 0 {
		t.Errorf("round %d: %d, %v, turn %d", round, h, ok, l.Turn(round))
	}
}

// by is a transaction of account 9 that somebody hands to the lane.
func by(who, round, turn int) api.Tx {
	x, e := tx.Hand(api.Tx{From: 9, Lane: true, Round: round, Turn: turn, Data: "d"}, who)
	if e != api.OK {
		panic("transaction")
	}
	return x
}

func TestNewAndRound(t *testing.T) {
	for _, length := range []int{0, -1, top + 1, math.MinInt, math.MaxInt} {
		if l, e := lane.New(length); l != nil || e != api.ErrArg {
			t.Errorf("New(%d): %d", length, e)
		}
	}
	for _, c := range [][3]int{{10, 25, 2}, {10, 9, 0}, {10, 10, 1}, {10, 0, 0}, {10, -1, 0}, {10, -99, 0}, {1, 7, 7}, {top, top - 1, 0}, {top, top, 1}, {1, math.MaxInt, math.MaxInt}, {3, math.MinInt, 0}} {
		if r := newLane(t, c[0]).Round(c[1]); r != c[2] {
			t.Errorf("round of %d, of length %d: %d", c[1], c[0], r)
		}
	}
}

func TestSet(t *testing.T) {
	l := newLane(t, 10)
	free(t, l, 2)
	want(t, "below 0", l.Set(-1, 64), api.ErrArg)
	want(t, "below 0", l.Set(math.MinInt, 1), api.ErrArg)
	want(t, "nobody", l.Set(2, -1), api.ErrWho)
	want(t, "nobody", l.Set(2, 64), api.ErrWho)
	free(t, l, 2)
	free(t, l, -1)
	want(t, "set", l.Set(2, 63), api.OK)
	holds(t, l, 2, 63, 0)
	want(t, "again", l.Set(2, 1), api.ErrTwice)
	want(t, "again by nobody", l.Set(2, 64), api.ErrWho)
	want(t, "set", l.Set(0, 0), api.OK)
	want(t, "set", l.Set(math.MaxInt, 0), api.OK)
	holds(t, l, 2, 63, 0)
	holds(t, l, 0, 0, 0)
	free(t, l, 1)
}

func TestGive(t *testing.T) {
	l := newLane(t, 10)
	l.Set(2, 5)
	for _, who := range []int{-1, 64, math.MinInt, math.MaxInt} {
		want(t, "from nobody", l.Give(3, who, 1, 0), api.ErrWho)
		want(t, "to nobody", l.Give(3, 1, who, 0), api.ErrWho)
	}
	want(t, "none", l.Give(3, 5, 1, 99), api.ErrNone)
	want(t, "none", l.Give(-1, 5, 1, 99), api.ErrNone)
	want(t, "not theirs", l.Give(2, 6, 1, 99), api.ErrTag)
	want(t, "late", l.Give(2, 5, 1, 30), api.ErrLate)
	holds(t, l, 2, 5, 0)
	want(t, "take", l.Take(by(5, 2, 0), 25), api.OK)
	want(t, "give", l.Give(2, 5, 6, 29), api.OK)
	holds(t, l, 2, 6, 1)
	want(t, "not theirs any more", l.Give(2, 5, 7, 29), api.ErrTag)
	want(t, "to oneself", l.Give(2, 6, 6, 0), api.OK)
	want(t, "give ahead", l.Give(2, 6, 0, -5), api.OK)
	holds(t, l, 2, 0, 1)
}

func TestCheckAndTake(t *testing.T) {
	l := newLane(t, 10)
	l.Set(2, 5)
	l.Set(3, 5)
	good := by(5, 2, 0)
	bad := good
	bad.By[7] ^= 1
	other := good
	other.Fee++
	for i, c := range []struct {
		x   api.Tx
		now int
		e   api.Errno
	}{
		{api.Tx{From: 64}, 25, api.ErrWho}, {api.Tx{Nonce: -1}, 25, api.ErrArg}, {api.Tx{Lane: true, Data: strings.Repeat("d", 257)}, 99, api.ErrBig},
		{api.Tx{}, 25, api.ErrArg}, {api.Tx{}, 0, api.ErrArg}, {api.Tx{Round: 2}, 25, api.ErrArg},
		{good, 19, api.ErrRound}, {good, 30, api.ErrRound}, {good, -1, api.ErrRound}, {bad, 30, api.ErrRound}, {by(6, 2, 1), 30, api.ErrRound},
		{by(5, 4, 0), 40, api.ErrNone}, {by(6, 0, 1), -1, api.ErrNone}, {by(6, 0, 1), math.MinInt, api.ErrNone},
		{bad, 25, api.ErrTag}, {other, 25, api.ErrTag}, {by(6, 2, 0), 25, api.ErrTag}, {by(9, 2, 1), 25, api.ErrTag},
		{by(5, 2, 1), 25, api.ErrTurn}, {by(5, 2, top), 25, api.ErrTurn},
		{good, 20, api.OK}, {good, 29, api.OK}, {by(5, 3, 0), 30, api.OK},
	} {
		want(t, "check "+string(rune('a'+i)), l.Check(c.x, c.now), c.e)
		if c.e != api.OK {
			want(t, "take "+string(rune('a'+i)), l.Take(c.x, c.now), c.e)
		}
	}
	holds(t, l, 2, 5, 0)
	want(t, "take", l.Take(good, 25), api.OK)
	holds(t, l, 2, 5, 1)
	holds(t, l, 3, 5, 0)
	want(t, "the same again", l.Take(good, 25), api.ErrTurn)
	want(t, "behind the round", l.Take(good, 30), api.ErrRound)
	for turn := 1; turn < 5; turn++ {
		want(t, "one ahead", l.Check(by(5, 2, turn+1), 25), api.ErrTurn)
		want(t, "the next one", l.Take(by(5, 2, turn), 25), api.OK)
		holds(t, l, 2, 5, turn+1)
	}
	l.Give(2, 5, 6, 25)
	want(t, "who held it", l.Take(by(5, 2, 5), 25), api.ErrTag)
	want(t, "who holds it", l.Take(by(6, 2, 5), 25), api.OK)
	holds(t, l, 2, 6, 6)
	// Who sent it plays no part, nor whether they signed it.
	x, _ := tx.Hand(api.Tx{From: 1, Lane: true, Round: 2, Turn: 6}, 6)
	want(t, "by another one", l.Take(x, 25), api.OK)
}

func TestNil(t *testing.T) {
	var l *lane.Lane
	want(t, "set", l.Set(-1, -1), api.ErrNil)
	want(t, "give", l.Give(-1, -1, -1, 0), api.ErrNil)
	want(t, "check", l.Check(api.Tx{From: -1}, 0), api.ErrNil)
	want(t, "take", l.Take(api.Tx{From: -1}, 0), api.ErrNil)
	if l.Round(99) != 0 {
		t.Error(l.Round(99))
	}
	free(t, l, 0)
}
