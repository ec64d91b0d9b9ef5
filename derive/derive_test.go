package derive_test

import (
	"math"
	"math/rand"
	"slices"
	"strconv"
	"testing"

	"cavalcade/api"
	"cavalcade/box"
	"cavalcade/cut"
	"cavalcade/derive"
	"cavalcade/inbox"
	"cavalcade/octets"
	"cavalcade/order"
	"cavalcade/tx"
)

// text is that of a signed transaction.
func text(from, nonce int) string {
	x, _ := tx.Sign(api.Tx{From: from, Nonce: nonce})
	s, e := tx.Text(x)
	if e != api.OK {
		panic("text")
	}
	return s
}

func forged() string {
	x, _ := tx.Sign(api.Tx{From: 1})
	x.Tag[0] ^= 1
	s, _ := tx.Text(x)
	return s
}

func mail(s string) api.Item { return api.Item{Kind: api.IDelayed, By: 3, Text: s} }

func force(n int) api.Item { return api.Item{Kind: api.IForce, N: n} }

// post is an item with a batch; a part without a text is a Delayed one.
func post(seq, first, before int, texts ...string) api.Item {
	b := api.Batch{Seq: seq, First: first, Before: before}
	for _, s := range texts {
		b.Parts = append(b.Parts, api.Part{Delayed: s == "", Text: s})
	}
	s, e := box.Write(b)
	if e != api.OK {
		panic("post")
	}
	return api.Item{Kind: api.IBatch, By: 64, Text: s}
}

// chain numbers blocks with these items, from 0 on; the block 0 has none.
func chain(items ...[]api.Item) []api.Block {
	l := []api.Block{{}}
	for i, x := range items {
		l = append(l, api.Block{Number: i + 1, Items: x})
	}
	return l
}

// in is the inbox's message, and paid a transaction, as messages of the stream.
func in(s string) api.Message { return api.Message{Kind: api.MDelayed, Body: "\x01\x03" + s} }

func paid(s string) api.Message { return api.Message{Kind: api.MTx, Body: s} }

func want(t *testing.T, what string, l []api.Block, wait, taken, seq int, messages ...api.Message) {
	t.Helper()
	s := derive.Stream(l, wait)
	if !slices.Equal(s.Messages, messages) || s.Taken != taken || s.Seq != seq {
		t.Errorf("%s: %v, %d, %d, not %v, %d, %d", what, s.Messages, s.Taken, s.Seq, messages, taken, seq)
	}
}

func TestDelayed(t *testing.T) {
	for _, c := range []struct {
		e    api.Entry
		want string
	}{{api.Entry{}, "\x00"}, {api.Entry{By: 3, Text: "a", Block: 9, Acc: api.Hash{1}}, "\x01\x03a"}, {api.Entry{By: 300, Text: "b"}, "\x02\x01\x2cb"}} {
		if m := derive.Delayed(c.e); m != (api.Message{Kind: api.MDelayed, Body: c.want}) {
			t.Errorf("%v: %q", c.e, m.Body)
		}
	}
}

type items = []api.Item

func TestBatches(t *testing.T) {
	a, b := text(1, 0), text(1, 1)
	want(t, "nothing", nil, 3, 0, 0)
	want(t, "the first block", chain(), 3, 0, 0)
	want(t, "a batch", chain(items{post(0, 0, 0, a, b)}), 3, 0, 1, paid(a), paid(b))
	want(t, "the same transaction twice", chain(items{post(0, 0, 0, a, a)}), 3, 0, 1, paid(a), paid(a))
	want(t, "two", chain(items{post(0, 0, 0, a), post(1, 1, 0, b)}), 3, 0, 2, paid(a), paid(b))
	want(t, "an empty one", chain(items{post(0, 0, 0), post(1, 0, 0, b)}), 3, 0, 2, paid(b))
	want(t, "not the next one", chain(items{post(1, 0, 0, a)}), 3, 0, 0)
	want(t, "in another order", chain(items{post(1, 0, 0, a), post(0, 0, 0, b), post(1, 1, 0, a)}), 3, 0, 2, paid(b), paid(a))
	want(t, "the same again", chain(items{post(0, 0, 0, a)}, items{post(0, 0, 0, b), post(0, 1, 0, b)}), 3, 0, 1, paid(a))
	want(t, "by somebody", chain(items{{Kind: api.IBatch, By: 5, Text: post(0, 0, 0, a).Text}}), 3, 0, 1, paid(a))
	// A batch that lands and is not told brings nothing, but it counts.
	want(t, "another first", chain(items{post(0, 1, 0, a), post(1, 0, 0, b)}), 3, 0, 2, paid(b))
	want(t, "another before", chain(items{mail("m")}, items{post(0, 0, 1, a), post(1, 0, 0, b)}), 3, 0, 2, paid(b))
	want(t, "forged", chain(items{post(0, 0, 0, a, forged()), post(1, 0, 0, b)}), 3, 0, 2, paid(b))
	want(t, "no transaction", chain(items{post(0, 0, 0, a, "x", b), post(1, 0, 0, b)}), 3, 0, 2, paid(b))
	want(t, "out of step for ever", chain(items{post(0, 0, 0, "x"), post(1, 1, 0, b), post(2, 2, 0, a)}), 3, 0, 3)
	// What is no batch that lands changes nothing.
	spoilt := post(0, 0, 0, a)
	spoilt.Text += "x"
	for _, i := range (items{{}, {Kind: 9, Text: post(0, 0, 0, a).Text}, {Kind: api.IBatch, By: 65, Text: post(0, 0, 0, a).Text}, {Kind: api.IBatch, N: 1, Text: post(0, 0, 0, a).Text}, {Kind: api.IBatch, Text: "x"}, spoilt, post(4, 0, 0, a), {Kind: api.IDelayed, By: 65, Text: "m"}, {Kind: api.IForce, By: 1, N: 1}}) {
		want(t, "passed over", chain(items{i, post(0, 0, 0, b), i}, items{i}), 3, 0, 1, paid(b))
	}
}

func TestInbox(t *testing.T) {
	a := text(1, 0)
	want(t, "in the same block", chain(items{mail("m"), post(0, 0, 0, "")}), 3, 0, 1)
	want(t, "in the next block", chain(items{mail("m")}, items{post(0, 0, 0, "")}), 3, 1, 1, in("m"))
	want(t, "one more than there are", chain(items{mail("m")}, items{mail("n"), post(0, 0, 0, "", "")}, items{post(1, 0, 0, "")}), 3, 1, 2, in("m"))
	want(t, "mixed", chain(items{mail("m"), mail("n"), mail("o")}, items{post(0, 0, 0, "", a, "")}, items{post(1, 3, 2, a, "")}), 3, 3, 2, in("m"), paid(a), in("n"), paid(a), in("o"))
	want(t, "fewer", chain(items{mail("m"), mail("n")}, items{post(0, 0, 0, "")}), 3, 1, 1, in("m"))
	want(t, "a post that is a message", chain(items{mail(post(0, 0, 0, a).Text)}, items{post(0, 0, 0, "")}), 3, 1, 1, in(post(0, 0, 0, a).Text))
	want(t, "two batches, one message", chain(items{mail("m")}, items{post(0, 0, 0, ""), post(1, 1, 1, ""), post(2, 1, 1, a)}), 3, 1, 3, in("m"), paid(a))
}

func TestForced(t *testing.T) {
	a := text(1, 0)
	want(t, "forced", chain(items{mail("m")}, nil, nil, items{force(1)}), 3, 1, 0, in("m"))
	want(t, "too soon", chain(items{mail("m")}, nil, items{force(1)}), 3, 0, 0)
	want(t, "none named", chain(items{mail("m")}, nil, nil, items{force(0)}), 3, 0, 0)
	want(t, "more named", chain(items{mail("m"), mail("n")}, nil, items{mail("o")}, items{force(99)}), 3, 2, 0, in("m"), in("n"))
	want(t, "one of two", chain(items{mail("m"), mail("n")}, nil, nil, items{force(1)}), 3, 1, 0, in("m"))
	want(t, "twice", chain(items{mail("m"), mail("n")}, nil, nil, items{force(1), force(1)}, items{force(2), force(1)}), 3, 2, 0, in("m"), in("n"))
	want(t, "no wait, in one block", chain(items{force(1), mail("m")}), 0, 1, 0, in("m"))
	want(t, "a wait below 0", chain(items{mail("m")}, nil, nil, items{force(1)}), -1, 0, 0)
	want(t, "a wait below 0", chain(items{mail("m")}, nil, nil, items{force(1)}), math.MinInt, 0, 0)
	want(t, "a great wait", chain(items{mail("m")}, nil, nil, items{force(1)}), math.MaxInt, 0, 0)
	want(t, "what is taken is not forced", chain(items{mail("m"), mail("n")}, items{post(0, 0, 0, "")}, nil, items{force(2)}), 3, 2, 1, in("m"), in("n"))
	want(t, "a batch behind it is not told", chain(items{mail("m")}, nil, nil, items{force(1), post(0, 0, 0, a), post(1, 1, 1, a)}), 3, 1, 2, in("m"), paid(a))
	want(t, "a batch ahead of it is", chain(items{mail("m")}, nil, nil, items{post(0, 0, 0, a), force(1)}), 3, 1, 1, paid(a), in("m"))
	want(t, "forced in the batch's block", chain(items{mail("m"), force(1), post(0, 1, 1, "")}), 0, 1, 1, in("m"))
	// By the numbers that the blocks have.
	l := []api.Block{{Number: 10, Items: items{mail("m")}}, {Number: 12, Items: items{force(1)}}}
	want(t, "by numbers", l, 2, 1, 0, in("m"))
	want(t, "by numbers", l, 3, 0, 0)
}

// random is a chain of all kinds of items, some of them right.
func random(r *rand.Rand, wait int) []api.Block {
	l := []api.Block{{}}
	for n := 1; n < 14; n++ {
		b := api.Block{Number: n}
		for range r.Intn(4) {
			now := derive.Stream(append(l[:n:n], b), wait)
			switch r.Intn(6) {
			case 0, 1:
				b.Items = append(b.Items, mail(strconv.Itoa(r.Intn(99))))
			case 2:
				b.Items = append(b.Items, force(r.Intn(5)))
			case 3:
				b.Items = append(b.Items, api.Item{Kind: r.Intn(5), By: r.Intn(70), Text: "x"})
			default:
				texts := []string{"", text(1, 0), "", text(2, 0), "bad"}
				n := r.Intn(4)
				b.Items = append(b.Items, post(now.Seq, len(now.Messages)+r.Intn(6)/5, now.Taken, texts[n:n+r.Intn(5-n)]...))
			}
		}
		l = append(l, b)
	}
	return l
}

// The stream only grows; the inbox's messages stand in it in order, each once; what is forced is there.
func TestStreamGrows(t *testing.T) {
	r := rand.New(rand.NewSource(23))
	taken := 0
	for range 150 {
		wait := r.Intn(4)
		l := random(r, wait)
		var before api.Stream
		for n := range len(l) + 1 {
			s := derive.Stream(l[:n], wait)
			if len(s.Messages) < len(before.Messages) || !slices.Equal(s.Messages[:len(before.Messages)], before.Messages) || s.Taken < before.Taken || s.Seq < before.Seq {
				t.Fatal("the stream has changed")
			}
			before = s
			entries := inbox.Messages(l[:n])
			i := 0
			for _, m := range s.Messages {
				if m.Kind == api.MDelayed {
					by, _ := octets.Number(entries[i].By)
					if m.Body != by+entries[i].Text {
						t.Fatal("another message of the inbox")
					}
					i++
				}
			}
			if i != s.Taken || s.Seq != len(box.Landed(l[:n])) {
				t.Fatal(i, s.Taken, s.Seq)
			}
			for i, e := range entries {
				for _, b := range l[:n] {
					if slices.ContainsFunc(inbox.Forces(b), func(n int) bool { return n > i }) && b.Number >= e.Block+wait && s.Taken <= i {
						t.Fatal("a message that was forced is missing")
					}
				}
			}
		}
		taken += before.Taken
	}
	if taken < 100 {
		t.Error("hardly a message was taken", taken)
	}
}

func TestBlocksStay(t *testing.T) {
	l := chain(items{mail("m")}, items{post(0, 0, 0, "")})
	kept := slices.Clone(l[1].Items)
	derive.Stream(l, 0).Messages[0].Body = "changed"
	if !slices.Equal(l[1].Items, kept) {
		t.Error("changed")
	}
}

// Batches of cuts of receipts are told as the receipts say, if each lands behind the messages that it takes.
func TestWhatASequencerPosts(t *testing.T) {
	r := rand.New(rand.NewSource(236))
	for range 100 {
		mails := r.Intn(6)
		l := []api.Block{{}}
		for i := range mails {
			l = append(l, api.Block{Number: i + 1, Items: items{mail(strconv.Itoa(i))}})
		}
		entries := inbox.Messages(l)
		log := order.New()
		for n := 0; n < 20; n++ {
			if i := log.Taken(log.Len()); i < mails && r.Intn(3) == 0 {
				log.Add(api.MDelayed, derive.Delayed(entries[i]).Body, n)
			} else {
				log.Add(api.MTx, text(1, log.Next(1)), n)
			}
		}
		all := log.From(0)
		for seq, from := 0, 0; from < len(all); seq++ {
			n := min(1+r.Intn(6), len(all)-from)
			b, e := cut.Make(api.Cut{Seq: seq, First: from, Before: log.Taken(from), Count: n}, all[from:from+n])
			s, f := box.Write(b)
			if e != api.OK || f != api.OK {
				t.Fatal(int(e), int(f))
			}
			l = append(l, api.Block{Number: len(l), Items: items{{Kind: api.IBatch, Text: s}}})
			from += n
		}
		s := derive.Stream(l, 99)
		if len(s.Messages) != len(all) || s.Taken != log.Taken(99) {
			t.Fatal(len(s.Messages), s.Taken)
		}
		for i, m := range s.Messages {
			if m.Kind != all[i].Kind || m.Body != all[i].Body {
				t.Fatalf("message %d is another one", i)
			}
		}
	}
}
