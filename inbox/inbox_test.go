package inbox_test

import (
	"math"
	"math/rand"
	"slices"
	"strings"
	"testing"

	"cavalcade/api"
	"cavalcade/digest"
	"cavalcade/inbox"
	"cavalcade/octets"
)

func delayed(by int, s string) api.Item { return api.Item{Kind: api.IDelayed, By: by, Text: s} }

// entries chains messages, from the document's words.
func entries(l ...api.Entry) []api.Entry {
	var acc api.Hash
	for i, x := range l {
		by, _ := octets.Number(x.By)
		s, _ := octets.List(by, x.Text)
		acc = digest.Chain(acc, s)
		l[i].Acc = acc
	}
	return l
}

func TestMessages(t *testing.T) {
	long := strings.Repeat("m", 640)
	blocks := []api.Block{
		{Number: 0},
		{Number: 1, Items: []api.Item{delayed(1, "a"), {Kind: api.IForce, N: 1}, delayed(64, long), delayed(1, long+"m"), delayed(65, "no"), delayed(-1, "no"), {Kind: api.IBatch, By: 1, Text: "no"}}},
		{Number: 5, Items: []api.Item{{Kind: api.IDelayed, N: 1, Text: "no"}, {Kind: 9, Text: "no"}, {}}},
		{Number: 3, Items: []api.Item{delayed(0, ""), delayed(1, "a"), {Kind: api.IDelayed, N: -1}, {Kind: api.IForce, Text: "no"}}},
		{Number: -7, Items: []api.Item{delayed(2, "b")}},
	}
	want := entries(api.Entry{By: 1, Text: "a", Block: 1}, api.Entry{By: 64, Text: long, Block: 1}, api.Entry{Block: 3}, api.Entry{By: 1, Text: "a", Block: 3}, api.Entry{By: 2, Text: "b", Block: -7})
	if got := inbox.Messages(blocks); !slices.Equal(got, want) {
		t.Errorf("%v, not %v", got, want)
	}
	if len(inbox.Messages(nil)) != 0 {
		t.Error("of no block")
	}
}

func TestForces(t *testing.T) {
	b := api.Block{Items: []api.Item{
		{Kind: api.IForce, N: 3}, delayed(1, "a"), {Kind: api.IForce}, {Kind: api.IForce, N: -1}, {Kind: api.IForce, N: 1<<40 + 1}, {Kind: api.IForce, By: 1, N: 5},
		{Kind: api.IForce, N: 6, Text: "x"}, {Kind: api.IBatch, N: 7}, {Kind: 4, N: 8}, {Kind: api.IForce, N: 1 << 40}, {Kind: api.IForce, N: 3},
	}}
	if l := inbox.Forces(b); !slices.Equal(l, []int{3, 0, 1 << 40, 3}) {
		t.Error(l)
	}
	if len(inbox.Forces(api.Block{})) != 0 {
		t.Error("of no item")
	}
}

func at(blocks ...int) []api.Entry {
	l := make([]api.Entry, len(blocks))
	for i, b := range blocks {
		l[i].Block = b
	}
	return l
}

func TestReach(t *testing.T) {
	for i, c := range []struct {
		l                 []api.Entry
		n, at, wait, want int
	}{
		{at(3), 1, 7, 4, 1}, {at(3), 1, 6, 4, 0}, {at(3), 0, 9, 4, 0}, {at(3), 2, 7, 4, 1}, {at(3), math.MaxInt, 7, 4, 1},
		{at(1, 1, 2, 3), 9, 5, 3, 3}, {at(1, 1, 2, 3), 9, 5, 2, 4}, {at(1, 1, 2, 3), 9, 5, 4, 2}, {at(1, 1, 2, 3), 1, 5, 0, 1}, {at(1, 1, 2, 3), 3, 5, 2, 3},
		{at(1, 9, 1), 9, 5, 2, 1}, {at(5), 1, 5, 0, 1}, {at(6), 1, 5, 0, 0}, {nil, 9, 9, 0, 0},
		{at(1), -1, 9, 1, 0}, {at(1), math.MinInt, 9, 1, 0}, {at(1), 1, 9, -1, 0}, {at(1), 1, 9, math.MinInt, 0},
		{at(math.MinInt), 1, math.MinInt, 0, 1}, {at(math.MinInt), 1, math.MinInt, 1, 0}, {at(math.MaxInt), 1, math.MinInt, 1, 0}, {at(math.MinInt), 1, math.MinInt + 5, math.MaxInt, 0},
		{at(math.MinInt), 1, -1, math.MaxInt, 1}, {at(math.MinInt), 1, -2, math.MaxInt, 0}, {at(math.MinInt + 1), 1, -1, math.MaxInt, 0}, {at(math.MaxInt), 1, math.MaxInt, 0, 1}, {at(math.MaxInt), 1, math.MaxInt, 1, 0},
	} {
		if got := inbox.Reach(c.l, c.n, c.at, c.wait); got != c.want {
			t.Errorf("%d: %d, not %d", i, got, c.want)
		}
	}
}

func random(r *rand.Rand) []api.Block {
	var blocks []api.Block
	for i := range r.Intn(12) {
		b := api.Block{Number: i}
		for range r.Intn(4) {
			b.Items = append(b.Items, api.Item{Kind: 1 + r.Intn(3), By: r.Intn(3), Text: strings.Repeat("t", r.Intn(3))})
		}
		blocks = append(blocks, b)
	}
	return blocks
}

// Messages grow with the blocks; who has one Acc has one list; a later call, one of more, and a shorter wait reach no less.
func TestGrowChainWait(t *testing.T) {
	r := rand.New(rand.NewSource(12))
	byAcc := map[api.Hash][]api.Entry{}
	for range 500 {
		blocks := random(r)
		all := inbox.Messages(blocks)
		for n := range blocks {
			part := inbox.Messages(blocks[:n])
			if len(part) > len(all) || !slices.Equal(part, all[:len(part)]) {
				t.Fatal("messages have changed")
			}
		}
		for i, x := range all {
			met, ok := byAcc[x.Acc]
			if ok && !slices.EqualFunc(met, all[:i+1], func(a, b api.Entry) bool { return a.By == b.By && a.Text == b.Text }) {
				t.Fatal("one Acc, two lists")
			}
			byAcc[x.Acc] = all[:i+1]
		}
		n, now, wait := r.Intn(12), r.Intn(14), r.Intn(5)
		k := inbox.Reach(all, n, now, wait)
		for i, x := range all[:min(n, len(all))] {
			if (i < k) != (x.Block <= now-wait) {
				t.Fatalf("%v: of %d at %d, waiting %d: %d", all, n, now, wait, k)
			}
		}
		if k > inbox.Reach(all, n+1, now, wait) || k > inbox.Reach(all, n, now+1, wait) || wait > 0 && k > inbox.Reach(all, n, now, wait-1) {
			t.Fatal("less is reached")
		}
	}
}

func TestBlocksStay(t *testing.T) {
	blocks := []api.Block{{Number: 1, Items: []api.Item{delayed(1, "a")}}}
	inbox.Messages(blocks)[0].Text = "b"
	if blocks[0].Items[0] != delayed(1, "a") {
		t.Error("changed")
	}
}
