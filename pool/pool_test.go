package pool_test

import (
	"math"
	"math/rand"
	"slices"
	"strings"
	"testing"

	"cavalcade/api"
	"cavalcade/pool"
)

const top = 1 << 40

func newPool(t *testing.T, size int) *pool.Pool {
	t.Helper()
	p, e := pool.New(size)
	if p == nil || e != api.OK {
		t.Fatalf("New(%d): %d", size, e)
	}
	return p
}

func wait(from, nonce, fee, index, till, at, place int) api.Wait {
	return api.Wait{Tx: api.Tx{From: from, Nonce: nonce, Fee: fee}, Index: index, Till: till, At: at, Place: place}
}

// put puts something that should wait, and nothing taken out for it.
func put(t *testing.T, p *pool.Pool, w api.Wait) {
	t.Helper()
	if out, ok, e := p.Put(w); out != (api.Wait{}) || ok || e != api.OK {
		t.Errorf("Put(%v): %v, %v, %d", w, out, ok, e)
	}
}

func refused(t *testing.T, p *pool.Pool, w api.Wait, e api.Errno) {
	t.Helper()
	before := p.All()
	if out, ok, got := p.Put(w); out != (api.Wait{}) || ok || got != e || !slices.Equal(before, p.All()) {
		t.Errorf("Put(%v): %v, %v, %d, not %d", w, out, ok, got, e)
	}
}

func holds(t *testing.T, p *pool.Pool, l ...api.Wait) {
	t.Helper()
	if got := p.All(); !slices.Equal(got, l) || p.Len() != len(l) {
		t.Errorf("%v (%d), not %v", got, p.Len(), l)
	}
}

// nonces is an account's next nonce, 0 at first.
func nonces(m map[int]int) func(who int) int { return func(who int) int { return m[who] } }

func next(t *testing.T, p *pool.Pool, now int, m map[int]int, w api.Wait) {
	t.Helper()
	if got, ok := p.Next(now, nonces(m)); !ok || got != w {
		t.Errorf("%v, %v, not %v", got, ok, w)
	}
	m[w.Tx.From]++
}

func nothing(t *testing.T, p *pool.Pool, now int, m map[int]int) {
	t.Helper()
	if got, ok := p.Next(now, nonces(m)); ok || got != (api.Wait{}) {
		t.Errorf("%v, %v", got, ok)
	}
}

func TestNew(t *testing.T) {
	for _, size := range []int{0, -1, 257, math.MinInt, math.MaxInt} {
		if p, e := pool.New(size); p != nil || e != api.ErrArg {
			t.Errorf("New(%d): %d", size, e)
		}
	}
	p := newPool(t, 256)
	for i := range 256 {
		put(t, p, wait(1, i, 1, i, 0, 0, 0))
	}
	refused(t, p, wait(1, 256, 1, 256, 0, 0, 0), api.ErrFull)
}

func TestExample(t *testing.T) {
	p := newPool(t, 9)
	put(t, p, wait(1, 1, 0, 0, 9, 2, 0))
	put(t, p, wait(1, 0, 0, 1, 9, 5, 1))
	m := map[int]int{}
	nothing(t, p, 4, m)
	next(t, p, 5, m, wait(1, 0, 0, 1, 9, 5, 1))
	holds(t, p, wait(1, 1, 0, 0, 9, 5, 1))
	next(t, p, 5, m, wait(1, 1, 0, 0, 9, 5, 1))
	nothing(t, p, 99, m)
	holds(t, p)
}

func TestPut(t *testing.T) {
	p := newPool(t, 3)
	for _, w := range []api.Wait{
		wait(64, 0, 0, 0, 0, 0, 0), wait(-1, 0, 0, 0, 0, 0, 0), wait(0, -1, 0, 0, 0, 0, 0), wait(0, 0, top+1, 0, 0, 0, 0), {Tx: api.Tx{Data: strings.Repeat("d", 257)}}, {Tx: api.Tx{Turn: 1}},
		wait(0, 0, 0, -1, 0, 0, 0), wait(0, 0, 0, top+1, 0, 0, 0), wait(0, 0, 0, 0, -1, 0, 0), wait(0, 0, 0, 0, top+1, 0, 0),
		wait(0, 0, 0, 0, 0, -1, 0), wait(0, 0, 0, 0, 0, top+1, 0), wait(0, 0, 0, 0, 0, 0, -1), wait(0, 0, 0, 0, 0, 0, top+1), wait(0, 0, 0, math.MinInt, 0, 0, math.MaxInt),
	} {
		refused(t, p, w, api.ErrArg)
	}
	a, b, c := wait(1, 0, 5, 7, 9, 1, 1), wait(2, 0, 4, top, top, top, top), wait(1, 1, 4, 3, 0, 0, 0)
	put(t, p, a)
	put(t, p, b)
	refused(t, p, wait(3, 3, 9, 7, 0, 0, 0), api.ErrTwice)
	refused(t, p, wait(1, 0, 9, 8, 0, 0, 0), api.ErrTwice)
	refused(t, p, wait(1, 0, 9, 8, -1, 0, 0), api.ErrArg)
	put(t, p, c)
	holds(t, p, c, a, b)
	refused(t, p, wait(1, 0, 9, 8, 0, 0, 0), api.ErrTwice)
	refused(t, p, wait(4, 0, 4, 8, 0, 0, 0), api.ErrFull)
	refused(t, p, wait(4, 0, 3, 8, 0, 0, 0), api.ErrFull)
	d := wait(4, 0, 5, 8, 0, 0, 0)
	if out, ok, e := p.Put(d); out != b || !ok || e != api.OK {
		t.Errorf("%v, %v, %d", out, ok, e)
	}
	holds(t, p, c, a, d)
	f := wait(5, 0, 6, 0, 0, 0, 0)
	if out, ok, e := p.Put(f); out != c || !ok || e != api.OK {
		t.Errorf("%v, %v, %d", out, ok, e)
	}
	holds(t, p, f, a, d)
	p.All()[0].Index = 99
	holds(t, p, f, a, d)
}

func TestOld(t *testing.T) {
	p := newPool(t, 9)
	l := []api.Wait{wait(0, 0, 0, 5, 3, 0, 0), wait(1, 0, 0, 4, 2, 0, 0), wait(2, 0, 0, 3, 9, 0, 0), wait(3, 0, 0, 6, 1, 0, 0)}
	for _, w := range l {
		put(t, p, w)
	}
	if got := p.Old(1); len(got) != 0 || p.Len() != 4 {
		t.Error(got)
	}
	if got := p.Old(math.MinInt); len(got) != 0 {
		t.Error(got)
	}
	if got := p.Old(4); !slices.Equal(got, []api.Wait{l[1], l[0], l[3]}) {
		t.Error(got)
	}
	holds(t, p, l[2])
	if got := p.Old(9); len(got) != 0 {
		t.Error(got)
	}
	if got := p.Old(math.MaxInt); !slices.Equal(got, l[2:3]) || p.Len() != 0 {
		t.Error(got)
	}
}

func TestNext(t *testing.T) {
	p := newPool(t, 20)
	m := map[int]int{5: 3}
	l := []api.Wait{
		wait(0, 0, 0, 9, 0, 4, 2), wait(1, 0, 0, 8, 0, 4, 1), wait(2, 0, 0, 7, 0, 3, 9), wait(3, 0, 0, 6, 0, 4, 1),
		wait(4, 1, 0, 5, 0, 0, 0), wait(5, 2, 0, 4, 0, 0, 0), wait(5, 3, 0, 3, 0, 4, 3), wait(6, 0, 0, 2, 0, 5, 0), wait(5, 4, 0, 1, 0, 5, 1),
	}
	for _, w := range l {
		put(t, p, w)
	}
	if got, ok := p.Next(4, nil); ok || got != (api.Wait{}) || p.Len() != len(l) {
		t.Error(got)
	}
	nothing(t, p, 2, m)
	nothing(t, p, math.MinInt, m)
	for _, i := range []int{2, 3, 1, 0, 6} {
		next(t, p, 4, m, l[i])
	}
	nothing(t, p, 4, m)
	next(t, p, math.MaxInt, m, l[7])
	next(t, p, math.MaxInt, m, l[8])
	nothing(t, p, math.MaxInt, m)
	holds(t, p, l[5], l[4])
}

// What stands behind has the key of the one ahead, if that is the greater one: by the time first, then by the place.
func TestRaise(t *testing.T) {
	for _, c := range [][6]int{{5, 1, 2, 9, 5, 1}, {5, 1, 5, 0, 5, 1}, {5, 1, 5, 1, 5, 1}, {5, 1, 5, 2, 5, 2}, {5, 9, 6, 0, 6, 0}, {top, top, top, top - 1, top, top}, {top, top - 1, top, top, top, top}} {
		p := newPool(t, 9)
		put(t, p, wait(1, 0, 0, 0, 0, c[0], c[1]))
		put(t, p, wait(1, 1, 0, 1, 0, c[2], c[3]))
		put(t, p, wait(2, 1, 0, 2, 0, 0, 0))
		put(t, p, wait(1, 2, 0, 3, 0, 0, 0))
		next(t, p, top, map[int]int{}, wait(1, 0, 0, 0, 0, c[0], c[1]))
		holds(t, p, wait(1, 1, 0, 1, 0, c[4], c[5]), wait(2, 1, 0, 2, 0, 0, 0), wait(1, 2, 0, 3, 0, 0, 0))
	}
}

func TestNil(t *testing.T) {
	var p *pool.Pool
	if out, ok, e := p.Put(api.Wait{Index: -1}); out != (api.Wait{}) || ok || e != api.ErrNil {
		t.Error(out, ok, int(e))
	}
	if got, ok := p.Next(9, nonces(nil)); ok || got != (api.Wait{}) {
		t.Error(got)
	}
	if len(p.Old(9)) != 0 || len(p.All()) != 0 || p.Len() != 0 {
		t.Error("of nil")
	}
}

// Keys do not fall, nonces rise by one, and all that is put comes out just once.
func TestOrderAndOneEnd(t *testing.T) {
	r := rand.New(rand.NewSource(18))
	for range 100 {
		p := newPool(t, 1+r.Intn(20))
		m := map[int]int{}
		ends, inside := map[int]int{}, 0
		index := 0
		last := [2]int{}
		for now := range 40 {
			for range r.Intn(5) {
				from := r.Intn(4)
				w := wait(from, m[from]+r.Intn(4), r.Intn(5), index, now+r.Intn(8), now+r.Intn(4), index)
				out, ok, e := p.Put(w)
				if e == api.OK {
					inside++
				}
				if ok {
					ends[out.Index]++
				}
				index++
			}
			for {
				w, ok := p.Next(now, nonces(m))
				if !ok {
					break
				}
				if w.At > now || w.At < last[0] || w.At == last[0] && w.Place < last[1] || w.Tx.Nonce != m[w.Tx.From] {
					t.Fatalf("at %d: %v behind %v", now, w, last)
				}
				last = [2]int{w.At, w.Place}
				m[w.Tx.From]++
				ends[w.Index]++
			}
			for _, w := range p.Old(now) {
				if w.Till >= now {
					t.Fatal(w)
				}
				ends[w.Index]++
			}
		}
		for _, w := range p.All() {
			ends[w.Index]++
		}
		if len(ends) != inside {
			t.Fatalf("%d of %d came out", len(ends), inside)
		}
		for i, n := range ends {
			if n != 1 {
				t.Fatalf("%d came out %d times", i, n)
			}
		}
	}
}
