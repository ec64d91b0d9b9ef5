package cut_test

import (
	"math"
	"math/rand"
	"slices"
	"strings"
	"testing"

	"cavalcade/api"
	"cavalcade/cut"
)

const top = 1 << 40

func rules(parts, bytes, age, lag int) api.Rules {
	return api.Rules{Parts: parts, Bytes: bytes, Age: age, Lag: lag}
}

func badRules() []api.Rules {
	return []api.Rules{
		{}, rules(0, 700, 0, 0), rules(65, 700, 0, 0), rules(-1, 700, 0, 0), rules(1, 699, 0, 0), rules(1, 8193, 0, 0), rules(1, -700, 0, 0),
		rules(1, 700, -1, 0), rules(1, 700, top+1, 0), rules(1, 700, 0, -1), rules(1, 700, 0, top+1), rules(math.MaxInt, 700, 0, 0), rules(1, math.MaxInt, 0, 0), rules(1, 700, math.MinInt, math.MinInt),
	}
}

// of is receipts with bodies of so many bytes.
func of(sizes ...int) []api.Receipt {
	l := make([]api.Receipt, len(sizes))
	for i, n := range sizes {
		l[i] = api.Receipt{Index: i, Kind: api.MTx, Body: strings.Repeat("b", n)}
	}
	return l
}

func TestCheck(t *testing.T) {
	for _, r := range []api.Rules{rules(1, 700, 0, 0), rules(64, 8192, top, top), rules(4, 900, 3, 2)} {
		if e := cut.Check(r); e != api.OK {
			t.Errorf("%v: %d", r, e)
		}
	}
	for _, r := range badRules() {
		if e := cut.Check(r); e != api.ErrArg {
			t.Errorf("%v: %d", r, e)
		}
		if cut.Fits(of(1, 1), r) != 0 || cut.Due(of(1, 1), math.MaxInt, r) != 0 {
			t.Errorf("%v: something fits", r)
		}
	}
}

func TestFits(t *testing.T) {
	for i, c := range []struct {
		l           []api.Receipt
		parts, want int
	}{
		{nil, 4, 0}, {of(1), 4, 1}, {of(700), 4, 1}, {of(701), 4, 1}, {of(9999), 4, 1}, {of(1, 1, 1, 1), 4, 4}, {of(1, 1, 1, 1, 1), 4, 4}, {of(1, 1), 1, 1},
		{of(350, 350), 4, 2}, {of(350, 351), 4, 1}, {of(350, 350, 1), 4, 2}, {of(350, 350, 0), 4, 3}, {of(701, 0), 4, 2}, {of(9999, 0, 1), 4, 2}, {of(0, 701), 4, 1}, {of(0, 700, 0, 0), 4, 4},
		{of(1, 700, 1), 4, 1}, {of(slices.Repeat([]int{0}, 70)...), 64, 64},
	} {
		if got := cut.Fits(c.l, rules(c.parts, 700, 0, 0)); got != c.want {
			t.Errorf("%d: %d, not %d", i, got, c.want)
		}
	}
}

// at is receipts of one byte with these times; those below 0 are the inbox's, of the time without the sign.
func at(times ...int) []api.Receipt {
	l := of(slices.Repeat([]int{1}, len(times))...)
	for i, n := range times {
		l[i].Time = n
		if n < 0 {
			l[i].Kind, l[i].Time = api.MDelayed, -n
		}
	}
	return l
}

func TestDue(t *testing.T) {
	for i, c := range []struct {
		l    []api.Receipt
		now  int
		r    api.Rules
		want int
	}{
		{nil, 99, rules(2, 700, 0, 0), 0},
		{at(3), 7, rules(2, 700, 5, 5), 0}, {at(3), 8, rules(2, 700, 5, 5), 1}, {at(3), 9, rules(2, 700, 5, 5), 1}, {at(3, 3, 3), 0, rules(2, 700, 5, 5), 2}, {at(3, 3), 0, rules(2, 700, 5, 5), 2},
		{at(3), -99, rules(1, 700, 5, 5), 1}, {at(3, 3), 7, rules(3, 700, 5, 0), 0}, {at(2, 3), 7, rules(3, 700, 5, 0), 2}, {at(3, 2), 7, rules(3, 700, 5, 0), 2},
		{at(-3), 5, rules(3, 700, 5, 2), 1}, {at(-3), 4, rules(3, 700, 5, 2), 0}, {at(-3), 8, rules(3, 700, 5, 9), 1}, {at(-3), 7, rules(3, 700, 5, 9), 0}, {at(4, -3), 5, rules(3, 700, 5, 2), 2}, {at(3, -4), 5, rules(3, 700, 5, 2), 0},
		{at(0), 0, rules(3, 700, 0, 0), 1}, {at(1), 0, rules(3, 700, 0, 0), 0}, {of(400, 400), -9, rules(9, 700, 5, 5), 1}, {of(701), -9, rules(9, 700, 5, 5), 0}, {of(701, 0), -9, rules(9, 700, 5, 5), 0},
		{at(math.MaxInt), math.MaxInt, rules(9, 700, 1, 1), 0}, {at(math.MaxInt - 1), math.MaxInt, rules(9, 700, 1, 1), 1}, {at(9), math.MinInt, rules(9, 700, top, top), 0},
		{[]api.Receipt{{Kind: 2, Time: math.MinInt}}, math.MinInt + 5, rules(9, 700, 10, 6), 0}, {[]api.Receipt{{Kind: 2, Time: math.MinInt}}, math.MinInt + 5, rules(9, 700, 10, 5), 1}, {[]api.Receipt{{Kind: 1, Time: math.MinInt}}, math.MinInt + 5, rules(9, 700, 10, 5), 0},
		{[]api.Receipt{{Time: math.MaxInt}}, math.MinInt, rules(9, 700, 1, 1), 0},
	} {
		if got := cut.Due(c.l, c.now, c.r); got != c.want {
			t.Errorf("%d: %d, not %d", i, got, c.want)
		}
	}
}

func TestMake(t *testing.T) {
	l := of(1, 2, 3)
	l[1].Kind = api.MDelayed
	l[2].Kind = 7
	l[0].Index, l[1].Index = 5, 99
	c := api.Cut{Seq: 3, First: 5, Before: 2, Count: 3}
	b, e := cut.Make(c, l)
	if e != api.OK || b.Seq != 3 || b.First != 5 || b.Before != 2 || !slices.Equal(b.Parts, []api.Part{{Text: "b"}, {Delayed: true}, {Delayed: true}}) {
		t.Errorf("%v, %d", b, e)
	}
	b.Parts[0].Text = "x"
	if l[0].Body != "b" {
		t.Error("changed")
	}
	for i, c := range []struct {
		c api.Cut
		l []api.Receipt
	}{
		{api.Cut{First: 5, Count: 2}, l}, {api.Cut{First: 5, Count: 4}, l}, {api.Cut{First: 4, Count: 3}, l}, {api.Cut{First: 5, Count: -1}, l}, {api.Cut{}, nil}, {api.Cut{Count: 1}, nil}, {api.Cut{First: 5}, l}, {api.Cut{Count: math.MinInt}, nil},
	} {
		if b, e := cut.Make(c.c, c.l); b.Seq != 0 || b.First != 0 || len(b.Parts) != 0 || e != api.ErrArg {
			t.Errorf("%d: %v, %d", i, b, e)
		}
	}
}

// Cutting what is due ends; then what is left is young and fits, and the parts say what the receipts say.
func TestCuttingEnds(t *testing.T) {
	r := rand.New(rand.NewSource(21))
	for range 500 {
		rule := rules(1+r.Intn(6), 700+r.Intn(500), r.Intn(20), r.Intn(20))
		var l []api.Receipt
		now := 0
		for i := range r.Intn(40) {
			now += r.Intn(3)
			l = append(l, api.Receipt{Index: i, Kind: 1 + r.Intn(2), Time: now, Body: strings.Repeat("b", r.Intn(656))})
		}
		now += r.Intn(9)
		var parts []api.Part
		from := 0
		for seq := 0; ; seq++ {
			n := cut.Due(l[from:], now, rule)
			if n == 0 {
				break
			}
			b, e := cut.Make(api.Cut{Seq: seq, First: from, Count: n}, l[from:from+n])
			if e != api.OK || n > rule.Parts {
				t.Fatal(int(e), n)
			}
			parts = append(parts, b.Parts...)
			from += n
		}
		left := l[from:]
		if cut.Fits(left, rule) != len(left) || len(left) >= rule.Parts {
			t.Fatal("what is left does not fit")
		}
		for _, x := range left {
			if x.Time <= now-rule.Age || x.Kind == api.MDelayed && x.Time <= now-rule.Lag {
				t.Fatal("what is left is old")
			}
		}
		for i, p := range parts {
			if p.Delayed != (l[i].Kind == api.MDelayed) || !p.Delayed && p.Text != l[i].Body {
				t.Fatal("a part says something else")
			}
		}
		if len(parts) != from {
			t.Fatal("parts are missing")
		}
	}
}
