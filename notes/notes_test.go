package notes_test

import (
	"math"
	"slices"
	"strings"
	"testing"

	"cavalcade/api"
	"cavalcade/digest"
	"cavalcade/notes"
	"cavalcade/octets"
	"cavalcade/seal"
)

const top = 1 << 40

func num(n int) string {
	s, _ := octets.Number(n)
	return s
}

func list(l ...string) string {
	s, e := octets.List(l...)
	if e != api.OK {
		panic("list")
	}
	return s
}

var tag = api.Hash{7, 31: 9}

func bids() []api.Bid {
	return []api.Bid{{}, {Round: top, By: 63, Amount: top, Salt: top, Tag: tag}, {Round: 1, By: 2, Amount: 300, Salt: 4}}
}

func badBids() []api.Bid {
	return []api.Bid{{By: -1}, {By: 64}, {By: math.MaxInt}, {Round: -1}, {Round: top + 1}, {Amount: -1}, {Amount: top + 1},
		{Salt: -1}, {Salt: top + 1}, {Salt: math.MinInt}}
}

func TestBids(t *testing.T) {
	for i, b := range bids() {
		want := list(num(b.Round), num(b.By), num(b.Amount), num(b.Salt), string(b.Tag[:]))
		if s, e := notes.WriteBid(b); s != want || e != api.OK {
			t.Errorf("%d: %q, %d", i, s, e)
		}
		if x, e := notes.ReadBid(want); x != b || e != api.OK {
			t.Errorf("%d: %v, %d", i, x, e)
		}
		signed := b
		signed.Tag, _ = seal.Tag(b.By, api.DBid, list(num(b.Round), num(b.By), num(b.Amount), num(b.Salt)))
		if x, e := notes.SignBid(b); x != signed || e != api.OK {
			t.Errorf("%d: SignBid: %v, %d", i, x, e)
		}
		if e := notes.CheckBid(signed); e != api.OK {
			t.Errorf("%d: CheckBid: %d", i, e)
		}
		if e := notes.CheckBid(b); e != api.ErrTag {
			t.Errorf("%d: CheckBid: %d", i, e)
		}
		for bit := range 256 {
			x := signed
			x.Tag[bit/8] ^= 1 << (bit % 8)
			if e := notes.CheckBid(x); e != api.ErrTag {
				t.Errorf("%d: CheckBid, bit %d turned: %d", i, bit, e)
			}
		}
		signed.Amount ^= 1
		signed.Amount %= top
		if e := notes.CheckBid(signed); e != api.ErrTag {
			t.Errorf("%d: CheckBid of another amount: %d", i, e)
		}
	}
	for i, b := range badBids() {
		if s, e := notes.WriteBid(b); s != "" || e != api.ErrArg {
			t.Errorf("bad %d: %d", i, e)
		}
		if x, e := notes.SignBid(b); x != (api.Bid{}) || e != api.ErrArg {
			t.Errorf("bad %d: SignBid: %d", i, e)
		}
		if e := notes.CheckBid(b); e != api.ErrArg {
			t.Errorf("bad %d: CheckBid: %d", i, e)
		}
	}
}

func TestReadBidErrors(t *testing.T) {
	z, h := num(0), string(tag[:])
	for i, s := range []string{
		"", "\x09", list(), list(z, z, z, z), list(z, z, z, z, h, z), list(z, z, z, z, h) + "x", list(z, z, z, z, h)[:20],
		list(z, z, z, z, h[1:]), list(z, z, z, z, h+"x"), list("", z, z, z, h), list(z+"x", z, z, z, h), list(z, "\x01\x00", z, z, h),
		list(z, num(64), z, z, h), list(num(top+1), z, z, z, h), list(z, z, num(top+1), z, h), list(z, z, z, num(top+1), h), list(z, z, z, num(math.MaxInt), h), list(z, z, z, h),
	} {
		if b, e := notes.ReadBid(s); b != (api.Bid{}) || e != api.ErrForm {
			t.Errorf("%d: %v, %d", i, b, e)
		}
	}
}

func receipt(index, kind, time int, body string, prev api.Hash) api.Receipt {
	h := digest.Chain(prev, list(num(index), num(kind), num(time), body))
	return api.Receipt{Index: index, Kind: kind, Time: time, Body: body, Prev: prev, Hash: h}
}

func receipts() []api.Receipt {
	return []api.Receipt{
		receipt(0, 1, 0, "", api.Hash{}),
		receipt(1, 2, 3, "body", tag),
		receipt(top, 1, top, strings.Repeat("b", 656), tag),
	}
}

func receiptText(r api.Receipt) string {
	return list(num(r.Index), num(r.Kind), num(r.Time), r.Body, string(r.Prev[:]), string(r.Hash[:]))
}

func TestReceipts(t *testing.T) {
	for i, r := range receipts() {
		if x, e := notes.Link(r.Prev, r.Index, r.Kind, r.Time, r.Body); x != r || e != api.OK {
			t.Errorf("%d: Link: %v, %d", i, x, e)
		}
		if s, e := notes.WriteReceipt(r); s != receiptText(r) || e != api.OK {
			t.Errorf("%d: %q, %d", i, s, e)
		}
		if x, e := notes.ReadReceipt(receiptText(r)); x != r || e != api.OK {
			t.Errorf("%d: %v, %d", i, x, e)
		}
		for bit := range 256 {
			x := r
			x.Hash[bit/8] ^= 1 << (bit % 8)
			if s, e := notes.WriteReceipt(x); s != "" || e != api.ErrSum {
				t.Errorf("%d: bit %d: %d", i, bit, e)
			}
			if x, e := notes.ReadReceipt(receiptText(x)); x != (api.Receipt{}) || e != api.ErrForm {
				t.Errorf("%d: bit %d: %d", i, bit, e)
			}
		}
		x := r
		x.Prev[0]++
		if s, e := notes.WriteReceipt(x); s != "" || e != api.ErrSum {
			t.Errorf("%d: another Prev: %d", i, e)
		}
	}
	for i, r := range []api.Receipt{
		receipt(0, 0, 0, "", tag), receipt(0, 3, 0, "", tag), receipt(top+1, 1, 0, "", tag), receipt(0, 1, top+1, "", tag),
		receipt(0, 1, 0, strings.Repeat("b", 657), tag), {Kind: 1, Index: -1}, {Kind: 1, Time: -1}, {Kind: -1}, {Kind: 1, Time: math.MinInt}, {},
	} {
		if s, e := notes.WriteReceipt(r); s != "" || e != api.ErrArg {
			t.Errorf("bad %d: %d", i, e)
		}
		if x, e := notes.Link(r.Prev, r.Index, r.Kind, r.Time, r.Body); x != (api.Receipt{}) || e != api.ErrArg {
			t.Errorf("bad %d: Link: %d", i, e)
		}
		if r.Hash != (api.Hash{}) {
			if x, e := notes.ReadReceipt(receiptText(r)); x != (api.Receipt{}) || e != api.ErrForm {
				t.Errorf("bad %d: Read: %d", i, e)
			}
		}
	}
}

func TestReadReceiptErrors(t *testing.T) {
	r := receipts()[1]
	a, k, at, p, h := num(1), num(2), num(3), string(r.Prev[:]), string(r.Hash[:])
	for i, s := range []string{
		"", "\xff", list(), list(a, k, at), list(a, k, at, "body", p), list(a, k, at, "body", p, h, ""), receiptText(r) + "x", receiptText(r)[:60],
		list(a, k, at, "body", p[1:], h), list(a, k, at, "body", p, h+"x"), list("", k, at, "body", p, h), list(a, k+"x", at, "body", p, h),
		list(a, k, at, "Body", p, h), list(a, num(1), at, "body", p, h), list(num(2), k, at, "body", p, h), list(a, k, num(4), "body", p, h),
		list(a, k, at, "body", h, p),
	} {
		if x, e := notes.ReadReceipt(s); x != (api.Receipt{}) || e != api.ErrForm {
			t.Errorf("%d: %v, %d", i, x, e)
		}
	}
}

// Receipts of one Prev that differ have hashes that differ.
func TestReceiptsApart(t *testing.T) {
	seen := map[api.Hash]api.Receipt{}
	for _, index := range []int{0, 1, 2, 256, 513} {
		for kind := 1; kind <= 2; kind++ {
			for _, time := range []int{0, 1, 2, 256, 513} {
				for _, body := range []string{"", "\x00", "\x01", "\x01\x01", "\x02\x01\x01"} {
					r, e := notes.Link(tag, index, kind, time, body)
					if other, met := seen[r.Hash]; met || e != api.OK {
						t.Errorf("%v as %v: %d", r, other, e)
					}
					seen[r.Hash] = r
				}
			}
		}
	}
}

func batches() []api.Batch {
	many := make([]api.Part, 512)
	return []api.Batch{
		{},
		{Seq: top, First: top, Before: top, Parts: []api.Part{{Delayed: true}, {Text: ""}, {Text: strings.Repeat("p", 656)}, {Text: "\x02"}}},
		{Seq: 1, First: 2, Before: 3, Parts: many},
	}
}

func same(a, b api.Batch) bool {
	return a.Seq == b.Seq && a.First == b.First && a.Before == b.Before && slices.Equal(a.Parts, b.Parts)
}

func batchText(b api.Batch) string {
	l := []string{num(b.Seq), num(b.First), num(b.Before)}
	for _, p := range b.Parts {
		if p.Delayed {
			l = append(l, "\x02")
		} else {
			l = append(l, "\x01"+p.Text)
		}
	}
	return list(l...)
}

func TestBatches(t *testing.T) {
	for i, b := range batches() {
		if s, e := notes.WriteBatch(b); s != batchText(b) || e != api.OK {
			t.Errorf("%d: %q, %d", i, s, e)
		}
		if x, e := notes.ReadBatch(batchText(b)); !same(x, b) || e != api.OK {
			t.Errorf("%d: %v, %d", i, x, e)
		}
	}
	if s, e := notes.WriteBatch(api.Batch{}); s != "\x01\x03\x01\x01\x00\x01\x01\x00\x01\x01\x00" || e != api.OK {
		t.Errorf("%q, %d", s, e)
	}
	full := make([]api.Part, 99)
	for i := range full {
		full[i].Text = strings.Repeat("f", 656)
	}
	if _, e := notes.WriteBatch(api.Batch{Parts: full}); e != api.OK {
		t.Errorf("99 great parts: %d", e)
	}
	if s, e := notes.WriteBatch(api.Batch{Parts: append(full, full[0])}); s != "" || e != api.ErrBig {
		t.Errorf("100 great parts: %d", e)
	}
	for i, b := range []api.Batch{
		{Seq: -1}, {Seq: top + 1}, {First: -1}, {First: top + 1}, {Before: -1}, {Before: top + 1}, {Before: math.MinInt}, {Parts: make([]api.Part, 513)},
		{Parts: []api.Part{{Text: strings.Repeat("p", 657)}}}, {Parts: []api.Part{{}, {Delayed: true, Text: "x"}}},
	} {
		if s, e := notes.WriteBatch(b); s != "" || e != api.ErrArg {
			t.Errorf("bad %d: %d", i, e)
		}
	}
}

func TestReadBatchErrors(t *testing.T) {
	z := num(0)
	for i, s := range []string{
		"", "\x09", list(), list(z, z), list(z, z, "\x01"), list(z, z, z) + "x", list(z, z, z)[:8], list(z, z, z+"x"), list("", z, z), list(z, "\x01\x00", z),
		list(num(top+1), z, z), list(z, num(top+1), z), list(z, z, num(top+1)), list(z, z, z, ""), list(z, z, z, "\x00"), list(z, z, z, "\x03x"), list(z, z, z, "\x02\x02"), list(z, z, z, "\x02x"),
		list(z, z, z, "\x01"+strings.Repeat("p", 657)), batchText(api.Batch{Parts: make([]api.Part, 513)}), list(z, z, z, "\x01a", "\x02", "x", "\x01b"), "\x02\xff\xff",
	} {
		if b, e := notes.ReadBatch(s); !same(b, api.Batch{}) || e != api.ErrForm {
			t.Errorf("%d: %v, %d", i, b, e)
		}
	}
}

func items() []api.Item {
	return []api.Item{
		{Kind: 1}, {Kind: 1, By: 64, Text: strings.Repeat("i", 65472)}, {Kind: 2}, {Kind: 2, N: top}, {Kind: 3}, {Kind: 3, By: 64, Text: "post"}, {Kind: 3, By: 1, Text: strings.Repeat("i", 65472)},
	}
}

func itemText(i api.Item) string { return list(num(i.Kind), num(i.By), num(i.N), i.Text) }

func TestItems(t *testing.T) {
	for n, i := range items() {
		if s, e := notes.WriteItem(i); s != itemText(i) || e != api.OK {
			t.Errorf("%d: %d bytes, %d", n, len(s), e)
		}
		if x, e := notes.ReadItem(itemText(i)); x != i || e != api.OK {
			t.Errorf("%d: %d, %d", n, x.Kind, e)
		}
	}
	for n, i := range []api.Item{
		{}, {Kind: 4}, {Kind: 1, N: 1}, {Kind: 3, N: 1}, {Kind: 1, By: 65}, {Kind: 3, By: 65}, {Kind: 2, By: 1}, {Kind: 2, Text: "x"}, {Kind: 2, N: top + 1},
		{Kind: 1, Text: strings.Repeat("i", 65473)}, {Kind: 3, Text: strings.Repeat("i", 65473)},
		{Kind: -1}, {Kind: 1, By: -1}, {Kind: 3, By: -1}, {Kind: 2, N: -1}, {Kind: math.MinInt, By: math.MinInt, N: math.MinInt}, {Kind: 1, By: math.MaxInt},
	} {
		if s, e := notes.WriteItem(i); s != "" || e != api.ErrArg {
			t.Errorf("bad %d: %d", n, e)
		}
		if i.Kind < 0 || i.By < 0 || i.N < 0 {
			continue
		}
		if x, e := notes.ReadItem(itemText(i)); x != (api.Item{}) || e != api.ErrForm {
			t.Errorf("bad %d: Read: %d", n, e)
		}
	}
}

func TestReadItemErrors(t *testing.T) {
	z, k := num(0), num(1)
	for i, s := range []string{
		"", "\x09", list(), list(k, z, z), list(k, z, z, "", ""), list(k, z, z, "") + "x", list(k, z, z, "abc")[:10], list(k+"x", z, z, ""), list("", z, z, ""), list(k, "\x01\x00", z, ""),
	} {
		if x, e := notes.ReadItem(s); x != (api.Item{}) || e != api.ErrForm {
			t.Errorf("%d: %v, %d", i, x, e)
		}
	}
}

// What is read of spoilt texts is written as what was read.
func TestReadIsOneWay(t *testing.T) {
	spoil := func(s string, again func(s string) (string, api.Errno)) {
		for i := range min(len(s), 200) {
			for _, c := range []byte{0, 1, 2, 3, 4, 64, 255} {
				bad := s[:i] + string([]byte{c}) + s[i+1:]
				if x, e := again(bad); e == api.OK && x != bad {
					t.Fatalf("%q is read, and written as %q", bad, x)
				}
			}
		}
	}
	for _, b := range bids() {
		s, _ := notes.WriteBid(b)
		spoil(s, func(s string) (string, api.Errno) {
			b, e := notes.ReadBid(s)
			if e != api.OK {
				return "", e
			}
			return notes.WriteBid(b)
		})
	}
	for _, b := range batches() {
		s, _ := notes.WriteBatch(b)
		spoil(s, func(s string) (string, api.Errno) {
			b, e := notes.ReadBatch(s)
			if e != api.OK {
				return "", e
			}
			return notes.WriteBatch(b)
		})
	}
	for _, i := range items()[:3] {
		s, _ := notes.WriteItem(i)
		spoil(s, func(s string) (string, api.Errno) {
			i, e := notes.ReadItem(s)
			if e != api.OK {
				return "", e
			}
			return notes.WriteItem(i)
		})
	}
}
