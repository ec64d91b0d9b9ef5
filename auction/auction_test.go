package auction_test

import (
	"math"
	"math/rand"
	"slices"
	"testing"

	"cavalcade/api"
	"cavalcade/auction"
	"cavalcade/bank"
	"cavalcade/digest"
	"cavalcade/notes"
)

func bid(round, by, amount, salt int) api.Bid {
	b, e := notes.SignBid(api.Bid{Round: round, By: by, Amount: amount, Salt: salt})
	if e != api.OK {
		panic("bid")
	}
	return b
}

// rich is what everybody has, where everybody has enough.
func rich() []int { return slices.Repeat([]int{1 << 40}, 64) }

// win asks for who wins, and what they pay.
func win(t *testing.T, what string, l []api.Bid, funds []int, round, floor int, b api.Bid, price int) {
	t.Helper()
	w, ok := auction.Win(l, funds, round, floor)
	if !ok || w.Bid != b || w.Price != price {
		t.Errorf("%s: %v, %v, not %v for %d", what, w, ok, b, price)
	}
}

func nobody(t *testing.T, what string, w api.Win, ok bool) {
	t.Helper()
	if ok || w != (api.Win{}) {
		t.Errorf("%s: %v, %v", what, w, ok)
	}
}

func TestWin(t *testing.T) {
	a, b, c := bid(4, 1, 10, 0), bid(4, 2, 7, 0), bid(4, 3, 5, 0)
	win(t, "two", []api.Bid{a, b}, rich(), 4, 3, a, 7)
	win(t, "two", []api.Bid{b, a}, rich(), 4, 3, a, 7)
	win(t, "three", []api.Bid{c, b, a}, rich(), 4, 3, a, 7)
	win(t, "one", []api.Bid{b}, rich(), 4, 3, b, 3)
	win(t, "at the floor", []api.Bid{b}, rich(), 4, 7, b, 7)
	win(t, "one below the floor", []api.Bid{a, b}, rich(), 4, 8, a, 8)
	win(t, "a floor below 0", []api.Bid{b}, rich(), 4, math.MinInt, b, math.MinInt)
	win(t, "one too poor", []api.Bid{a, b}, []int{0, 10, 6}, 4, 3, a, 3)
	win(t, "just enough", []api.Bid{a, b}, []int{0, 10, 7}, 4, 3, a, 7)
	win(t, "the highest too poor", []api.Bid{a, b}, []int{0, 9, 7}, 4, 3, b, 3)
	win(t, "no funds of one", []api.Bid{a, b}, []int{0, 10}, 4, 3, a, 3)
	win(t, "nothing for nothing", []api.Bid{bid(0, 63, 0, 0)}, nil, 0, 0, bid(0, 63, 0, 0), 0)
	win(t, "another round", []api.Bid{bid(5, 4, 99, 0), a, bid(3, 5, 99, 0)}, rich(), 4, 3, a, 3)
	forged := a
	forged.Amount = 11
	bad := api.Bid{Round: 4, By: 64, Amount: 99}
	win(t, "forged", []api.Bid{forged, bad, b}, rich(), 4, 3, b, 3)
	win(t, "the first of one counts", []api.Bid{bid(4, 1, 6, 0), bid(4, 1, 10, 0), b}, rich(), 4, 3, b, 6)
	win(t, "the first of one that counts", []api.Bid{bid(4, 1, 2, 0), forged, bid(5, 1, 8, 0), bid(4, 1, 10, 0), b}, rich(), 4, 3, bid(4, 1, 10, 0), 7)
	win(t, "the first of one that they can pay", []api.Bid{bid(4, 1, 9, 0), bid(4, 1, 8, 1), b}, []int{0, 8, 8}, 4, 3, bid(4, 1, 8, 1), 7)
	for i, l := range [][]api.Bid{nil, {forged}, {bad}, {bid(5, 1, 10, 0)}} {
		w, ok := auction.Win(l, rich(), 4, 3)
		nobody(t, "none "+string(rune('0'+i)), w, ok)
	}
	w, ok := auction.Win([]api.Bid{a}, rich(), 4, 11)
	nobody(t, "a high floor", w, ok)
	w, ok = auction.Win([]api.Bid{bid(4, 1, 1, 0)}, nil, 4, 0)
	nobody(t, "no funds at all", w, ok)
	w, ok = auction.Win([]api.Bid{bid(4, 1, 0, 0)}, []int{0, -1}, 4, 0)
	nobody(t, "less than nothing", w, ok)
	w, ok = auction.Win([]api.Bid{a}, rich(), -4, 0)
	nobody(t, "a round below 0", w, ok)
}

// Of equal bids that wins whose bytes have the least digest.
func TestEqual(t *testing.T) {
	for salt := range 20 {
		var l []api.Bid
		for by := range 8 {
			l = append(l, bid(1, by, 50, salt))
		}
		least := slices.MinFunc(l, func(a, b api.Bid) int {
			x, _ := notes.WriteBid(a)
			y, _ := notes.WriteBid(b)
			h, g := digest.Sum(x), digest.Sum(y)
			return slices.Compare(h[:], g[:])
		})
		win(t, "equal", l, rich(), 1, 0, least, 50)
		slices.Reverse(l)
		win(t, "equal", l, rich(), 1, 0, least, 50)
	}
}

func TestFair(t *testing.T) {
	r := rand.New(rand.NewSource(15))
	for range 500 {
		floor, funds := r.Intn(20), make([]int, r.Intn(20))
		for i := range funds {
			funds[i] = r.Intn(60)
		}
		var l []api.Bid
		for _, by := range r.Perm(20)[:r.Intn(8)] {
			l = append(l, bid(1, by, r.Intn(40), r.Intn(3)))
		}
		kept := slices.Clone(l)
		w, ok := auction.Win(l, funds, 1, floor)
		if !slices.Equal(l, kept) {
			t.Fatal("the list has changed")
		}
		slices.Reverse(l)
		if again, too := auction.Win(l, funds, 1, floor); again != w || ok != too {
			t.Fatal("the order plays a part")
		}
		if !ok {
			continue
		}
		if w.Price < floor || w.Price > w.Bid.Amount || w.Bid.Amount > funds[w.Bid.By] {
			t.Fatal(w)
		}
		for _, b := range l {
			if b.By < len(funds) && b.Amount <= funds[b.By] && b.Amount > w.Bid.Amount {
				t.Fatal("a higher one")
			}
		}
		if w.Bid.Amount > 0 {
			more := append(l, bid(1, 40, r.Intn(w.Bid.Amount), 0))
			x, _ := auction.Win(more, append(funds, slices.Repeat([]int{99}, 41)...), 1, floor)
			y, _ := auction.Win(l, append(funds, slices.Repeat([]int{99}, 41)...), 1, floor)
			if more[len(more)-1].Amount < y.Bid.Amount && (x.Bid != y.Bid || x.Price < y.Price) {
				t.Fatal("a loser has changed it")
			}
		}
	}
}

func newBook(t *testing.T, floor int) *auction.Book {
	t.Helper()
	b, e := auction.New(floor)
	if b == nil || e != api.OK {
		t.Fatalf("New(%d): %d", floor, e)
	}
	return b
}

func want(t *testing.T, what string, got, e api.Errno) {
	t.Helper()
	if got != e {
		t.Errorf("%s: %d, not %d", what, got, e)
	}
}

func TestBook(t *testing.T) {
	for _, floor := range []int{-1, 1<<40 + 1, math.MinInt, math.MaxInt} {
		if b, e := auction.New(floor); b != nil || e != api.ErrArg {
			t.Errorf("New(%d): %d", floor, e)
		}
	}
	newBook(t, 1<<40)
	newBook(t, 0)
	b := newBook(t, 3)
	if len(b.Bids(4)) != 0 {
		t.Error("bids in a new book")
	}
	x := bid(4, 1, 3, 0)
	forged := x
	forged.Salt = 1
	want(t, "may not be", b.Bid(api.Bid{By: 64}, 9), api.ErrArg)
	want(t, "forged", b.Bid(forged, 9), api.ErrTag)
	want(t, "late", b.Bid(x, 4), api.ErrLate)
	want(t, "late, and too little", b.Bid(bid(4, 1, 2, 0), 5), api.ErrLate)
	want(t, "too little", b.Bid(bid(4, 1, 2, 0), 3), api.ErrFee)
	want(t, "a bid", b.Bid(x, 3), api.OK)
	want(t, "twice", b.Bid(x, 3), api.ErrTwice)
	want(t, "twice by one", b.Bid(bid(4, 1, 9, 7), math.MinInt), api.ErrTwice)
	want(t, "twice, and too little", b.Bid(bid(4, 1, 2, 7), 3), api.ErrFee)
	want(t, "for another round", b.Bid(bid(5, 1, 9, 7), 3), api.OK)
	want(t, "by another one", b.Bid(bid(4, 0, 5, 7), 3), api.OK)
	if l := b.Bids(4); !slices.Equal(l, []api.Bid{x, bid(4, 0, 5, 7)}) {
		t.Error(l)
	}
	b.Bids(4)[0].By = 9
	if l := b.Bids(4); l[0] != x {
		t.Error(l)
	}
	if l := b.Bids(5); !slices.Equal(l, []api.Bid{bid(5, 1, 9, 7)}) || len(b.Bids(-1)) != 0 {
		t.Error(l)
	}
	for by := 2; by < 32; by++ {
		want(t, "many", b.Bid(bid(4, by, 5, 0), 3), api.OK)
	}
	want(t, "one more", b.Bid(bid(4, 32, 5, 0), 3), api.ErrFull)
	want(t, "one more, and twice", b.Bid(bid(4, 31, 6, 0), 3), api.ErrTwice)
	want(t, "for another round", b.Bid(bid(6, 32, 5, 0), 3), api.OK)
	if len(b.Bids(4)) != auction.MaxBids || auction.MaxBids != 32 {
		t.Error(len(b.Bids(4)))
	}
}

func TestClose(t *testing.T) {
	b, k := newBook(t, 3), bank.New()
	k.Put(1, 20)
	k.Put(2, 8)
	b.Bid(bid(4, 1, 10, 0), 0)
	b.Bid(bid(4, 2, 7, 0), 0)
	b.Bid(bid(4, 3, 9, 0), 0)
	b.Bid(bid(5, 2, 8, 0), 0)
	w, ok := b.Close(4, nil)
	nobody(t, "without a bank", w, ok)
	if len(b.Bids(4)) != 3 {
		t.Error("bids are gone")
	}
	w, ok = b.Close(4, k)
	if !ok || w.Bid != bid(4, 1, 10, 0) || w.Price != 7 || k.Of(1) != 13 || k.Of(2) != 8 || k.Total() != 21 {
		t.Errorf("%v, %v, %v", w, ok, k.All())
	}
	if len(b.Bids(4)) != 0 || len(b.Bids(5)) != 1 {
		t.Error("bids stay, or others are gone")
	}
	w, ok = b.Close(4, k)
	nobody(t, "once more", w, ok)
	want(t, "once more", b.Bid(bid(4, 1, 10, 0), 0), api.OK)
	k.Take(2, 1)
	w, ok = b.Close(5, k)
	nobody(t, "too poor", w, ok)
	if len(b.Bids(5)) != 0 || k.Total() != 20 {
		t.Error("bids of a round that nobody won stay")
	}
	w, ok = b.Close(4, k)
	if !ok || w.Price != 3 || k.Of(1) != 10 {
		t.Errorf("%v, %v", w, ok)
	}
	w, ok = b.Close(-1, k)
	nobody(t, "no such round", w, ok)
}

func TestNil(t *testing.T) {
	var b *auction.Book
	want(t, "bid", b.Bid(api.Bid{By: -1}, 0), api.ErrNil)
	if len(b.Bids(1)) != 0 {
		t.Error("bids of nil")
	}
	w, ok := b.Close(1, bank.New())
	nobody(t, "of nil", w, ok)
}
