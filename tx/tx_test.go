package tx_test

import (
	"math"
	"strings"
	"testing"

	"cavalcade/api"
	"cavalcade/digest"
	"cavalcade/octets"
	"cavalcade/seal"
	"cavalcade/tx"
)

func num(n int) string {
	s, _ := octets.Number(n)
	return s
}

func list(l ...string) string {
	s, e := octets.List(l...)
	if e != api.OK {
		panic("list")
	}
	return s
}

// good: transactions that may be, at the edges of what may be.
func good() []api.Tx {
	h := api.Hash{1, 2, 3, 31: 9}
	return []api.Tx{
		{},
		{From: 63, Nonce: 1 << 40, Fee: 1 << 40, To: 63, Data: strings.Repeat("d", 256)},
		{From: 1, Nonce: 300, Fee: 2, To: 3, Data: "\x00", Tag: h},
		{Lane: true},
		{From: 5, Nonce: 7, Fee: 9, To: 11, Data: "data", Lane: true, Round: 1 << 40, Turn: 1 << 40, By: h, Tag: h},
		{From: 63, To: 1, Lane: true, Round: 3, Turn: 4, By: h},
	}
}

func TestCheck(t *testing.T) {
	for i, x := range good() {
		if e := tx.Check(x); e != api.OK {
			t.Errorf("%d: %d", i, e)
		}
	}
	long := strings.Repeat("d", 257)
	for i, c := range []struct {
		x api.Tx
		e api.Errno
	}{
		{api.Tx{From: -1}, api.ErrWho}, {api.Tx{From: 64}, api.ErrWho}, {api.Tx{To: -1}, api.ErrWho}, {api.Tx{To: 64}, api.ErrWho},
		{api.Tx{From: math.MinInt}, api.ErrWho}, {api.Tx{To: math.MaxInt, Nonce: -1, Data: long}, api.ErrWho},
		{api.Tx{Nonce: -1}, api.ErrArg}, {api.Tx{Nonce: 1<<40 + 1}, api.ErrArg}, {api.Tx{Fee: -1}, api.ErrArg}, {api.Tx{Fee: 1<<40 + 1}, api.ErrArg},
		{api.Tx{Nonce: math.MinInt, Data: long}, api.ErrArg}, {api.Tx{Fee: math.MaxInt}, api.ErrArg},
		{api.Tx{Lane: true, Round: -1}, api.ErrArg}, {api.Tx{Lane: true, Round: 1<<40 + 1}, api.ErrArg},
		{api.Tx{Lane: true, Turn: -1}, api.ErrArg}, {api.Tx{Lane: true, Turn: 1<<40 + 1}, api.ErrArg},
		{api.Tx{Round: 1}, api.ErrArg}, {api.Tx{Turn: 1}, api.ErrArg}, {api.Tx{By: api.Hash{31: 1}}, api.ErrArg}, {api.Tx{Round: 1, Data: long}, api.ErrArg},
		{api.Tx{Data: long}, api.ErrBig}, {api.Tx{Lane: true, Data: long}, api.ErrBig},
	} {
		if e := tx.Check(c.x); e != c.e {
			t.Errorf("%d: %d, not %d", i, e, c.e)
		}
		if s, e := tx.Body(c.x); s != "" || e != c.e {
			t.Errorf("%d: Body: %d", i, e)
		}
		if s, e := tx.Text(c.x); s != "" || e != c.e {
			t.Errorf("%d: Text: %d", i, e)
		}
		if e := tx.Signed(c.x); e != c.e {
			t.Errorf("%d: Signed: %d", i, e)
		}
		if x, e := tx.Sign(c.x); x != (api.Tx{}) || e != c.e {
			t.Errorf("%d: Sign: %d", i, e)
		}
		if x, e := tx.Hand(c.x, 99); x != (api.Tx{}) || e != c.e {
			t.Errorf("%d: Hand: %d", i, e)
		}
		if h, e := tx.Name(c.x); h != (api.Hash{}) || e != c.e {
			t.Errorf("%d: Name: %d", i, e)
		}
	}
}

// body and text say by themselves, from the document's words, what the bytes are.
func body(x api.Tx) string {
	l := []string{num(x.From), num(x.Nonce), num(x.Fee), num(x.To), x.Data}
	if x.Lane {
		l = append(l, num(x.Round), num(x.Turn))
	}
	return list(l...)
}

func text(x api.Tx) string {
	if x.Lane {
		return list(body(x), string(x.Tag[:]), string(x.By[:]))
	}
	return list(body(x), string(x.Tag[:]))
}

func TestBytes(t *testing.T) {
	for i, x := range good() {
		if s, e := tx.Body(x); s != body(x) || e != api.OK {
			t.Errorf("%d: Body: %q, %d", i, s, e)
		}
		if s, e := tx.Text(x); s != text(x) || e != api.OK {
			t.Errorf("%d: Text: %q, %d", i, s, e)
		}
		if h, e := tx.Name(x); h != digest.Sum(text(x)) || e != api.OK {
			t.Errorf("%d: Name: %d", i, e)
		}
	}
	zero, _ := tx.Text(api.Tx{})
	if zero != "\x01\x02\x01\x0f\x01\x05\x01\x01\x00\x01\x01\x00\x01\x01\x00\x01\x01\x00\x00\x01\x20"+strings.Repeat("\x00", 32) {
		t.Errorf("%q", zero)
	}
}

func TestThereAndBack(t *testing.T) {
	for i, x := range good() {
		s, _ := tx.Text(x)
		y, e := tx.Read(s)
		if y != x || e != api.OK {
			t.Errorf("%d: %v, %d", i, y, e)
		}
	}
}

func TestReadErrors(t *testing.T) {
	tag := strings.Repeat("t", 32)
	z := num(0)
	five := list(z, z, z, z, "")
	seven := list(z, z, z, z, "", z, z)
	for i, c := range []struct {
		s string
		e api.Errno
	}{
		{"", api.ErrShort},
		{"\x09", api.ErrForm},
		{"\x01\x00", api.ErrForm},
		{num(1025), api.ErrBig},
		{num(1) + num(65537), api.ErrBig},
		{list(five, tag)[:9], api.ErrShort},
		{list(five, tag) + "x", api.ErrForm},
		{list(), api.ErrForm},
		{list(five), api.ErrForm},
		{list(five, tag, tag, tag), api.ErrForm},
		{list(seven, tag, tag, tag), api.ErrForm},
		{list(five, tag[1:]), api.ErrForm},
		{list(five, tag+"t"), api.ErrForm},
		{list(seven, tag, tag[1:]), api.ErrForm},
		{list(seven, tag[1:], tag), api.ErrForm},
		{list(seven, tag, ""), api.ErrForm},
		{list("", tag), api.ErrShort},
		{list("", tag[1:]), api.ErrForm},
		{list("\x01\x05\x01", tag), api.ErrShort},
		{list(num(1025), tag), api.ErrBig},
		{list(five+"x", tag), api.ErrForm},
		{list(seven, tag), api.ErrForm},
		{list(five, tag, tag), api.ErrForm},
		{list(list(z, z, z, z), tag), api.ErrForm},
		{list(list(z, z, z, z, "", z), tag), api.ErrForm},
		{list(list(z, z, z, z, "", z), tag, tag), api.ErrForm},
		{list(list(z, z, z, z, "", z, z, z), tag, tag), api.ErrForm},
		{list(list("", z, z, z, ""), tag), api.ErrShort},
		{list(list(z, "\x02\x01", z, z, ""), tag), api.ErrShort},
		{list(list(z, "\x09", "", z, ""), tag), api.ErrForm},
		{list(list(z, "", "\x09", z, ""), tag), api.ErrShort},
		{list(list(z, z, z+"x", "", ""), tag), api.ErrForm},
		{list(list(z, z, z, "", strings.Repeat("d", 257)), tag), api.ErrShort},
		{list(list(z, z, z, z, "", "", z), tag, tag), api.ErrShort},
		{list(list(z, z, z, z, "", z, z+"x"), tag, tag), api.ErrForm},
		{list(list(num(64), z, "", z, ""), tag), api.ErrShort},
		{list(list(num(64), num(1<<40+1), z, z, ""), tag), api.ErrWho},
		{list(list(z, z, z, num(64), ""), tag), api.ErrWho},
		{list(list(z, num(1<<40+1), z, z, strings.Repeat("d", 257)), tag), api.ErrArg},
		{list(list(z, z, num(math.MaxInt), z, ""), tag), api.ErrArg},
		{list(list(z, z, z, z, "", num(1<<40+1), z), tag, tag), api.ErrArg},
		{list(list(z, z, z, z, "", z, num(1<<40+1)), tag, tag), api.ErrArg},
		{list(list(z, z, z, z, strings.Repeat("d", 257)), tag), api.ErrBig},
	} {
		if x, e := tx.Read(c.s); x != (api.Tx{}) || e != c.e {
			t.Errorf("%d: %v, %d, not %d", i, x, e, c.e)
		}
	}
}

// What is read of spoilt texts has the text that was read.
func TestReadIsOneWay(t *testing.T) {
	read := 0
	for _, x := range good() {
		s, _ := tx.Text(x)
		for i := range len(s) {
			for _, c := range []byte{0, 1, 2, 3, 7, 0xff, s[i] + 1} {
				bad := s[:i] + string([]byte{c}) + s[i+1:]
				if y, e := tx.Read(bad); e == api.OK {
					read++
					if again, _ := tx.Text(y); again != bad {
						t.Fatalf("%q is read as %v", bad, y)
					}
				} else if y != (api.Tx{}) {
					t.Fatalf("%q: %d beside %v", bad, e, y)
				}
			}
		}
	}
	if read == 0 {
		t.Error("none was read")
	}
}

func TestSign(t *testing.T) {
	for i, x := range good() {
		s, e := tx.Sign(x)
		want := x
		want.Tag, _ = seal.Tag(x.From, api.DTx, body(x))
		if s != want || e != api.OK {
			t.Errorf("%d: %v, %d", i, s, e)
		}
		if e := tx.Signed(s); e != api.OK {
			t.Errorf("%d: not signed: %d", i, e)
		}
		for bit := range 256 {
			y := s
			y.Tag[bit/8] ^= 1 << (bit % 8)
			if e := tx.Signed(y); e != api.ErrTag {
				t.Errorf("%d: signed with bit %d turned: %d", i, bit, e)
			}
		}
		for _, y := range others(s) {
			if e := tx.Signed(y); e != api.ErrTag {
				t.Errorf("%d: another one is signed: %v: %d", i, y, e)
			}
		}
	}
}

// others: the transaction with one thing another one that is signed.
func others(x api.Tx) []api.Tx {
	var l []api.Tx
	put := func(change func(y *api.Tx)) {
		y := x
		change(&y)
		l = append(l, y)
	}
	put(func(y *api.Tx) { y.From ^= 1 })
	put(func(y *api.Tx) { y.To ^= 1 })
	put(func(y *api.Tx) { y.Nonce = (y.Nonce + 1) % (1 << 40) })
	put(func(y *api.Tx) { y.Fee = (y.Fee + 1) % (1 << 40) })
	put(func(y *api.Tx) { y.Data += "x"; y.Data = y.Data[max(0, len(y.Data)-256):len(y.Data)] })
	if x.Lane {
		put(func(y *api.Tx) { y.Round ^= 1; y.Round %= 1 << 40 })
		put(func(y *api.Tx) { y.Turn ^= 1; y.Turn %= 1 << 40 })
		put(func(y *api.Tx) { y.Lane, y.Round, y.Turn, y.By = false, 0, 0, api.Hash{} })
	}
	return l
}

func TestHand(t *testing.T) {
	for i, x := range good() {
		for _, who := range []int{0, 1, 63} {
			h, e := tx.Hand(x, who)
			if !x.Lane {
				if h != (api.Tx{}) || e != api.ErrArg {
					t.Errorf("%d: not by the lane: %d", i, e)
				}
				continue
			}
			want := x
			want.By, _ = seal.Tag(who, api.DLane, body(x))
			if h != want || e != api.OK {
				t.Errorf("%d: %d", i, e)
			}
			s, _ := tx.Sign(x)
			if h, _ = tx.Hand(s, who); tx.Signed(h) != api.OK {
				t.Errorf("%d: handed, and signed no more", i)
			}
		}
		for _, who := range []int{-1, 64, math.MaxInt, math.MinInt} {
			if h, e := tx.Hand(x, who); h != (api.Tx{}) || e != api.ErrWho {
				t.Errorf("%d: by %d: %d", i, who, e)
			}
		}
	}
}
