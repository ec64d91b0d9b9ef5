package store_test

import (
	"math"
	"math/rand"
	"slices"
	"strconv"
	"strings"
	"testing"

	"cavalcade/api"
	"cavalcade/disk"
	"cavalcade/journal"
	"cavalcade/notes"
	"cavalcade/octets"
	"cavalcade/order"
	"cavalcade/store"
	"cavalcade/tx"
)

const top = 1 << 40

// text is that of a signed transaction.
func text(from, nonce int) string {
	x, _ := tx.Sign(api.Tx{From: from, Nonce: nonce})
	s, e := tx.Text(x)
	if e != api.OK {
		panic("text")
	}
	return s
}

func receiptRecord(r api.Receipt) string {
	s, _ := notes.WriteReceipt(r)
	return "\x01" + s
}

func cutRecord(c api.Cut) string {
	var l []string
	for _, n := range []int{c.Seq, c.First, c.Before, c.Count} {
		s, _ := octets.Number(n)
		l = append(l, s)
	}
	s, _ := octets.List(l...)
	return "\x02" + s
}

func records(t *testing.T, d *disk.Disk) []string {
	t.Helper()
	s, e := d.Read("log")
	if e != api.OK {
		t.Fatal(int(e))
	}
	l, n := journal.Parse(s)
	if n != len(s) {
		t.Fatal("something stands behind the records")
	}
	return l
}

func open(t *testing.T, d *disk.Disk) *store.Store {
	t.Helper()
	s, e := store.Open(d)
	if s == nil || e != api.OK {
		t.Fatalf("Open: %d", e)
	}
	return s
}

func want(t *testing.T, what string, got, e api.Errno) {
	t.Helper()
	if got != e {
		t.Errorf("%s: %d, not %d", what, got, e)
	}
}

// looks holds a store against a log and cuts that should be the same.
func looks(t *testing.T, s *store.Store, l *order.Log, cuts []api.Cut, released int) {
	t.Helper()
	end := 0
	for _, c := range cuts {
		end += c.Count
	}
	if s.Released() != released || s.Open1() != l.Len()-end || s.Taken() != l.Taken(l.Len()) || !slices.Equal(s.Cuts(), cuts) {
		t.Errorf("%d, %d, %d, %v; not %d, %d, %d, %v", s.Released(), s.Open1(), s.Taken(), s.Cuts(), released, l.Len()-end, l.Taken(l.Len()), cuts)
	}
	for _, i := range []int{math.MinInt, -1, 0, 1, l.Len() - 1, l.Len(), math.MaxInt} {
		if !slices.Equal(s.From(i), l.From(i)) {
			t.Errorf("From(%d): %v", i, s.From(i))
		}
	}
	for who := -1; who <= 64; who++ {
		if s.Next(who) != l.Next(who) {
			t.Errorf("Next(%d): %d", who, s.Next(who))
		}
	}
}

// add adds a message to both, having asked.
func add(t *testing.T, s *store.Store, l *order.Log, kind int, body string, time int) {
	t.Helper()
	n := l.Len()
	want, e := l.Add(kind, body, time)
	if got := s.Ask(kind, body, time); got != e {
		t.Errorf("Ask: %d, not %d", got, e)
	}
	if len(s.From(0)) != n {
		t.Error("Ask has added something")
	}
	if got, f := s.Add(kind, body, time); got != want || f != e {
		t.Errorf("Add: %v, %d, not %d", got, f, e)
	}
}

func TestExample(t *testing.T) {
	d, l := disk.New(), order.New()
	s := open(t, d)
	looks(t, s, l, nil, 0)
	want(t, "sync", s.Sync(), api.OK)
	if len(d.Names()) != 0 {
		t.Error(d.Names())
	}
	add(t, s, l, api.MTx, text(1, 0), 2)
	add(t, s, l, api.MDelayed, "a", 3)
	c, e := s.Cut(1)
	if c != (api.Cut{Count: 1}) || e != api.OK {
		t.Errorf("%v, %d", c, e)
	}
	if c, e := s.Cut(2); c != (api.Cut{}) || e != api.ErrRange {
		t.Errorf("%v, %d", c, e)
	}
	looks(t, s, l, []api.Cut{c}, 0)
	want(t, "sync", s.Sync(), api.OK)
	looks(t, s, l, []api.Cut{c}, 2)
	all := l.From(0)
	if got := records(t, d); !slices.Equal(got, []string{receiptRecord(all[0]), receiptRecord(all[1]), cutRecord(c)}) || !slices.Equal(d.Names(), []string{"log"}) {
		t.Errorf("%q", got)
	}
	looks(t, open(t, d), l, []api.Cut{c}, 2)
}

func TestAskAndAdd(t *testing.T) {
	d, l := disk.New(), order.New()
	s := open(t, d)
	x, _ := tx.Sign(api.Tx{From: 1})
	x.Tag[0] ^= 1
	forged, _ := tx.Text(x)
	for _, c := range []struct {
		kind int
		body string
		time int
	}{
		{1, text(1, 1), 3}, {1, text(1, 0), 3}, {1, text(1, 0), 3}, {1, text(1, 1), 2}, {1, "x", 3}, {1, forged, 3}, {0, "x", 3}, {3, "", 3}, {2, strings.Repeat("x", 657), 3}, {2, "x", top + 1},
		{2, "x", -1}, {2, strings.Repeat("x", 656), 3}, {1, text(1, 1), 4}, {1, text(2, 0), top}, {2, "", top},
	} {
		add(t, s, l, c.kind, c.body, c.time)
	}
	looks(t, s, l, nil, 0)
	if l.Len() != 5 {
		t.Error(l.Len())
	}
}

func TestCut(t *testing.T) {
	d, l := disk.New(), order.New()
	s := open(t, d)
	for _, n := range []int{0, -1, math.MinInt} {
		if c, e := s.Cut(n); c != (api.Cut{}) || e != api.ErrArg {
			t.Errorf("Cut(%d): %d", n, e)
		}
	}
	if c, e := s.Cut(1); c != (api.Cut{}) || e != api.ErrRange {
		t.Errorf("%d", e)
	}
	add(t, s, l, 2, "a", 0)
	add(t, s, l, 1, text(1, 0), 0)
	add(t, s, l, 2, "b", 0)
	add(t, s, l, 2, "c", 0)
	add(t, s, l, 1, text(1, 1), 0)
	cuts := []api.Cut{{Seq: 0, First: 0, Before: 0, Count: 2}, {Seq: 1, First: 2, Before: 1, Count: 1}, {Seq: 2, First: 3, Before: 2, Count: 2}}
	for i, want := range cuts {
		if c, e := s.Cut(6); c != (api.Cut{}) || e != api.ErrRange {
			t.Errorf("%d", e)
		}
		if c, e := s.Cut(want.Count); c != want || e != api.OK {
			t.Errorf("%v, %d", c, e)
		}
		looks(t, s, l, cuts[:i+1], 0)
	}
	if c, e := s.Cut(math.MaxInt); c != (api.Cut{}) || e != api.ErrRange {
		t.Errorf("%d", e)
	}
	s.Cuts()[0].Count = 9
	looks(t, s, l, cuts, 0)
	want(t, "sync", s.Sync(), api.OK)
	looks(t, open(t, d), l, cuts, 5)
}

func TestCompact(t *testing.T) {
	d, l := disk.New(), order.New()
	s := open(t, d)
	want(t, "compact nothing", s.Compact(), api.OK)
	if len(records(t, d)) != 0 {
		t.Error("records of nothing")
	}
	var cuts []api.Cut
	for i := range 4 {
		add(t, s, l, 2, strconv.Itoa(i), i)
		c, _ := s.Cut(1)
		cuts = append(cuts, c)
	}
	add(t, s, l, 2, "last", 9)
	looks(t, s, l, cuts, 0)
	want(t, "compact", s.Compact(), api.OK)
	looks(t, s, l, cuts, 5)
	var lay []string
	for _, r := range l.From(0) {
		lay = append(lay, receiptRecord(r))
	}
	for _, c := range cuts {
		lay = append(lay, cutRecord(c))
	}
	if !slices.Equal(records(t, d), lay) {
		t.Error("laid otherwise")
	}
	add(t, s, l, 2, "more", 9)
	looks(t, s, l, cuts, 5)
	d.Crash(nil)
	got := open(t, d)
	if len(got.From(0)) != 5 || !slices.Equal(got.Cuts(), cuts) || got.Released() != 5 {
		t.Error("what was laid anew is not safe")
	}
}

// Sync and Compact release all receipts alike, in whatever order they are called.
func TestReleased(t *testing.T) {
	calls := []func(s *store.Store) api.Errno{(*store.Store).Compact, (*store.Store).Sync, (*store.Store).Sync, (*store.Store).Compact, (*store.Store).Compact}
	d, l := disk.New(), order.New()
	s := open(t, d)
	for i, call := range calls {
		want(t, "nothing more", call(s), api.OK)
		looks(t, s, l, nil, l.Len())
		add(t, s, l, api.MDelayed, "a", i)
		add(t, s, l, api.MTx, text(1, i), i)
		looks(t, s, l, nil, l.Len()-2)
		want(t, "release", call(s), api.OK)
		looks(t, s, l, nil, l.Len())
		d.Crash(nil)
		s = open(t, d)
		looks(t, s, l, nil, l.Len())
	}
}

// Wherever the journal fails, in Sync or in Compact, nothing is released, and the store is broken.
func TestReleaseFails(t *testing.T) {
	for i, c := range []struct {
		call  func(s *store.Store) api.Errno
		steps int // what the call asks of the disk
	}{{(*store.Store).Sync, 1}, {(*store.Store).Compact, 3}} {
		for n := range c.steps + 1 {
			d, l := disk.New(), order.New()
			s := open(t, d)
			add(t, s, l, api.MDelayed, "a", 3)
			want(t, "sync", s.Sync(), api.OK)
			add(t, s, l, api.MDelayed, "b", 3)
			d.Arm(n)
			if n == c.steps {
				want(t, "armed too late", c.call(s), api.OK)
				looks(t, s, l, nil, 2)
				continue
			}
			want(t, strconv.Itoa(i)+" armed with "+strconv.Itoa(n), c.call(s), api.ErrDown)
			looks(t, s, l, nil, 1)
			d.Crash(nil)
			want(t, "sync", s.Sync(), api.ErrDown)
			want(t, "compact", s.Compact(), api.ErrDown)
			looks(t, s, l, nil, 1)
		}
	}
}

func TestOpenErrors(t *testing.T) {
	if s, e := store.Open(nil); s != nil || e != api.ErrNil {
		t.Error(int(e))
	}
	d := disk.New()
	d.Arm(0)
	if s, e := store.Open(d); s != nil || e != api.ErrDown {
		t.Error(int(e))
	}
	l := order.New()
	a, _ := l.Add(2, "a", 5)
	b, _ := l.Add(2, "b", 5)
	A, B := receiptRecord(a), receiptRecord(b)
	forged, _ := notes.Link(a.Hash, 1, 2, 4, "earlier")
	number, _ := octets.Number(0)
	short, _ := octets.List(number, number, number)
	odd, _ := octets.List(number, number, number, "\x01")
	for i, c := range []struct {
		records []string
		e       api.Errno
	}{
		{nil, api.OK}, {[]string{A, B}, api.OK}, {[]string{A, cutRecord(api.Cut{Count: 1}), B, cutRecord(api.Cut{Seq: 1, First: 1, Before: 1, Count: 1})}, api.OK},
		{[]string{A, B, cutRecord(api.Cut{Count: 2})}, api.OK},
		{[]string{B}, api.ErrForm}, {[]string{A, A}, api.ErrForm}, {[]string{A, receiptRecord(forged)}, api.ErrForm}, {[]string{""}, api.ErrForm}, {[]string{"\x00"}, api.ErrForm},
		{[]string{A, "\x01"}, api.ErrForm}, {[]string{A, "\x02"}, api.ErrForm}, {[]string{"\x03" + A[1:]}, api.ErrForm}, {[]string{A[1:]}, api.ErrForm}, {[]string{A + "x"}, api.ErrForm},
		{[]string{"\x02" + A[1:]}, api.ErrForm}, {[]string{A, "\x01" + cutRecord(api.Cut{Count: 1})[1:]}, api.ErrForm},
		{[]string{cutRecord(api.Cut{Count: 1}), A}, api.ErrForm}, {[]string{cutRecord(api.Cut{})}, api.ErrForm}, {[]string{A, cutRecord(api.Cut{})}, api.ErrForm},
		{[]string{A, cutRecord(api.Cut{Seq: 1, Count: 1})}, api.ErrForm}, {[]string{A, cutRecord(api.Cut{First: 1, Count: 1})}, api.ErrForm}, {[]string{A, cutRecord(api.Cut{Before: 1, Count: 1})}, api.ErrForm},
		{[]string{A, cutRecord(api.Cut{Count: 2})}, api.ErrForm}, {[]string{A, cutRecord(api.Cut{Count: 1}), cutRecord(api.Cut{Count: 1})}, api.ErrForm},
		{[]string{A, cutRecord(api.Cut{Count: 1}) + "x"}, api.ErrForm}, {[]string{A, cutRecord(api.Cut{Count: 1})[:6]}, api.ErrForm}, {[]string{A, "\x02" + short}, api.ErrForm}, {[]string{A, "\x02" + odd}, api.ErrForm},
		{[]string{A, "\x02\x00"}, api.ErrForm}, {[]string{A, cutRecord(api.Cut{Count: math.MaxInt})}, api.ErrForm},
		{[]string{A, B, cutRecord(api.Cut{Count: 1}), cutRecord(api.Cut{Seq: 1, First: 1, Before: 0, Count: 1})}, api.ErrForm},
	} {
		d := disk.New()
		j, _, _ := journal.Open(d, "log")
		j.Renew(c.records)
		s, e := store.Open(d)
		if (s != nil) != (e == api.OK) || e != c.e {
			t.Errorf("%d: %d, not %d", i, e, c.e)
		}
	}
}

// With an error of the journal the store answers ErrDown from then on; what it tells stays.
func TestBroken(t *testing.T) {
	calls := []func(s *store.Store) api.Errno{
		func(s *store.Store) api.Errno {
			r, e := s.Add(1, text(1, 1), 5)
			if r != (api.Receipt{}) {
				return api.OK
			}
			return e
		},
		func(s *store.Store) api.Errno { return s.Sync() },
		func(s *store.Store) api.Errno { return s.Compact() },
		func(s *store.Store) api.Errno {
			c, e := s.Cut(1)
			if c != (api.Cut{}) {
				return api.OK
			}
			return e
		},
	}
	for i, call := range calls {
		d, l := disk.New(), order.New()
		s := open(t, d)
		add(t, s, l, 2, "a", 0)
		add(t, s, l, 1, text(1, 0), 5)
		c, _ := s.Cut(1)
		s.Sync()
		add(t, s, l, 2, "b", 5)
		d.Arm(0)
		// What is wrong with what is asked is told ahead of the disk, and breaks nothing.
		if _, e := s.Add(1, "x", 5); e != api.ErrForm {
			t.Error(int(e))
		}
		if _, e := s.Cut(0); e != api.ErrArg {
			t.Error(int(e))
		}
		if _, e := s.Cut(3); e != api.ErrRange {
			t.Error(int(e))
		}
		want(t, "ask", s.Ask(1, text(1, 1), 5), api.OK)
		want(t, "first "+strconv.Itoa(i), call(s), api.ErrDown)
		looks(t, s, l, []api.Cut{c}, 2)
		d.Crash(nil)
		// What meets no journal comes first: what follows could break the store by itself.
		want(t, "ask", s.Ask(1, "x", -1), api.ErrDown)
		if _, e := s.Add(1, "x", -1); e != api.ErrDown {
			t.Error(int(e))
		}
		if _, e := s.Cut(0); e != api.ErrDown {
			t.Error(int(e))
		}
		for _, call := range calls {
			want(t, "then", call(s), api.ErrDown)
		}
		looks(t, s, l, []api.Cut{c}, 2)
	}
}

func TestNil(t *testing.T) {
	var s *store.Store
	want(t, "ask", s.Ask(9, "", -1), api.ErrNil)
	if r, e := s.Add(9, "", -1); r != (api.Receipt{}) || e != api.ErrNil {
		t.Error(int(e))
	}
	if c, e := s.Cut(0); c != (api.Cut{}) || e != api.ErrNil {
		t.Error(int(e))
	}
	want(t, "sync", s.Sync(), api.ErrNil)
	want(t, "compact", s.Compact(), api.ErrNil)
	if s.Released() != 0 || len(s.From(0)) != 0 || len(s.Cuts()) != 0 || s.Open1() != 0 || s.Next(1) != 0 || s.Taken() != 0 {
		t.Error("of nil")
	}
}

// Behind a crash at any place, torn in any way, a beginning is there of all that was added, at least what was released.
func TestNothingReleasedIsLost(t *testing.T) {
	r := rand.New(rand.NewSource(20))
	var texts [30]string
	for i := range texts {
		texts[i] = text(1, i)
	}
	for round := range 300 {
		d := disk.New()
		s := open(t, d)
		var all []api.Receipt
		var cuts []api.Cut
		released, safeCuts := 0, 0
		for range 3 {
			d.Arm(r.Intn(25))
			for e := api.OK; e == api.OK; {
				switch k := r.Intn(10); {
				case k < 3:
					var x api.Receipt
					if x, e = s.Add(1, texts[min(s.Next(1), 29)], len(all)); e == api.OK {
						all = append(all, x)
					} else if e == api.ErrNonce {
						e = api.OK
					}
				case k < 5:
					var x api.Receipt
					if x, e = s.Add(2, strings.Repeat("d", r.Intn(40)), len(all)); e == api.OK {
						all = append(all, x)
					}
				case k < 7:
					var c api.Cut
					if c, e = s.Cut(1 + r.Intn(3)); e == api.OK {
						cuts = append(cuts, c)
					} else if e == api.ErrRange {
						e = api.OK
					}
				case k < 9:
					if e = s.Sync(); e == api.OK {
						released, safeCuts = len(all), len(cuts)
					}
				default:
					if e = s.Compact(); e == api.OK {
						released, safeCuts = len(all), len(cuts)
					}
				}
				if s.Released() != released {
					t.Fatal(s.Released(), released)
				}
			}
			if !slices.Equal(s.From(0), all) || !slices.Equal(s.Cuts(), cuts) {
				t.Fatal("it tells something else than what was added")
			}
			d.Crash([]int{r.Intn(200), r.Intn(200)})
			s = open(t, d)
			got, gotCuts := s.From(0), s.Cuts()
			if len(got) < released || len(got) > len(all) || !slices.Equal(got, all[:len(got)]) {
				t.Fatalf("%d: %d receipts of %d, %d of them released", round, len(got), len(all), released)
			}
			if len(gotCuts) < safeCuts || len(gotCuts) > len(cuts) || !slices.Equal(gotCuts, cuts[:len(gotCuts)]) {
				t.Fatalf("%d: %d cuts of %d, %d of them safe", round, len(gotCuts), len(cuts), safeCuts)
			}
			all, cuts, released, safeCuts = got, gotCuts, len(got), len(gotCuts)
			end := 0
			for i, c := range cuts {
				if c.Seq != i || c.First != end || c.Count < 1 || end+c.Count > len(all) {
					t.Fatalf("%d: %v", round, cuts)
				}
				end += c.Count
			}
		}
	}
}
