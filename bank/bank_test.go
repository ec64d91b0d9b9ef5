package bank_test

import (
	"math"
	"math/rand"
	"slices"
	"testing"

	"cavalcade/api"
	"cavalcade/bank"
)

const top = 1 << 40

func want(t *testing.T, what string, got, e api.Errno) {
	t.Helper()
	if got != e {
		t.Errorf("%s: %d, not %d", what, got, e)
	}
}

// holds asks for what some have; all others have nothing.
func holds(t *testing.T, b *bank.Bank, has map[int]int) {
	t.Helper()
	l := b.All()
	sum := 0
	for who := range 64 {
		if b.Of(who) != has[who] || len(l) != 64 || l[who] != has[who] {
			t.Fatalf("%d has %d, not %d: %v", who, b.Of(who), has[who], l)
		}
		sum += has[who]
	}
	if b.Total() != sum {
		t.Fatalf("all of it is %d, not %d", b.Total(), sum)
	}
}

func TestExample(t *testing.T) {
	b := bank.New()
	holds(t, b, nil)
	want(t, "put", b.Put(1, 5), api.OK)
	want(t, "move", b.Move(1, 2, 3), api.OK)
	holds(t, b, map[int]int{1: 2, 2: 3})
	want(t, "take", b.Take(1, 3), api.ErrFunds)
	want(t, "take", b.Take(1, 2), api.OK)
	holds(t, b, map[int]int{2: 3})
	want(t, "take nothing", b.Take(9, 0), api.OK)
	want(t, "put nothing", b.Put(9, 0), api.OK)
	want(t, "move nothing", b.Move(9, 2, 0), api.OK)
	holds(t, b, map[int]int{2: 3})
}

func TestErrors(t *testing.T) {
	b := bank.New()
	b.Put(0, 5)
	b.Put(63, top)
	for _, who := range []int{-1, 64, math.MinInt, math.MaxInt} {
		for _, n := range []int{1, -1, top + 1} {
			want(t, "put", b.Put(who, n), api.ErrWho)
			want(t, "take", b.Take(who, n), api.ErrWho)
			want(t, "move from", b.Move(who, 0, n), api.ErrWho)
			want(t, "move to", b.Move(0, who, n), api.ErrWho)
		}
		if b.Of(who) != 0 {
			t.Error(who)
		}
	}
	for _, n := range []int{-1, top + 1, math.MinInt, math.MaxInt} {
		want(t, "put", b.Put(63, n), api.ErrArg)
		want(t, "take", b.Take(0, n), api.ErrArg)
		want(t, "move", b.Move(0, 63, n), api.ErrArg)
		want(t, "move to oneself", b.Move(0, 0, n), api.ErrArg)
	}
	want(t, "put", b.Put(63, 1), api.ErrBig)
	want(t, "put", b.Put(0, top), api.ErrBig)
	want(t, "put", b.Put(0, top-4), api.ErrBig)
	want(t, "take", b.Take(0, 6), api.ErrFunds)
	want(t, "move", b.Move(0, 63, 6), api.ErrFunds)
	want(t, "move", b.Move(0, 63, 1), api.ErrBig)
	want(t, "move to oneself", b.Move(0, 0, 6), api.ErrFunds)
	want(t, "move to oneself", b.Move(63, 63, top), api.OK)
	holds(t, b, map[int]int{0: 5, 63: top})
	want(t, "put", b.Put(0, top-5), api.OK)
	want(t, "take", b.Take(63, top), api.OK)
	want(t, "move", b.Move(0, 63, top), api.OK)
	holds(t, b, map[int]int{63: top})
}

func TestNil(t *testing.T) {
	var b *bank.Bank
	want(t, "put", b.Put(-1, -1), api.ErrNil)
	want(t, "take", b.Take(-1, -1), api.ErrNil)
	want(t, "move", b.Move(-1, -1, -1), api.ErrNil)
	if b.Of(1) != 0 || len(b.All()) != 0 || b.Total() != 0 {
		t.Error("of nil")
	}
}

func TestAllIsApart(t *testing.T) {
	b := bank.New()
	b.Put(1, 5)
	b.All()[1] = 9
	holds(t, b, map[int]int{1: 5})
	if other := bank.New(); other.Total() != 0 {
		t.Error("two banks have one hoard")
	}
}

func TestNothingIsLost(t *testing.T) {
	r := rand.New(rand.NewSource(14))
	b := bank.New()
	has, total := map[int]int{}, 0
	for range 5000 {
		from, to, n := r.Intn(64), r.Intn(64), r.Intn(20)
		switch r.Intn(3) {
		case 0:
			want(t, "put", b.Put(to, n), api.OK)
			has[to] += n
			total += n
		case 1:
			if e := b.Take(from, n); e == api.OK {
				has[from] -= n
				total -= n
			} else if e != api.ErrFunds || has[from] >= n {
				t.Fatal(int(e))
			}
		case 2:
			if e := b.Move(from, to, n); e == api.OK {
				has[from] -= n
				has[to] += n
			} else if e != api.ErrFunds || has[from] >= n {
				t.Fatal(int(e))
			}
		}
		if slices.Min(b.All()) < 0 || b.Total() != total {
			t.Fatal("something is lost")
		}
	}
	holds(t, b, has)
}
