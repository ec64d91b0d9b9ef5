package tree_test

import (
	"math"
	"math/rand"
	"slices"
	"strconv"
	"strings"
	"testing"

	"cavalcade/api"
	"cavalcade/digest"
	"cavalcade/notes"
	"cavalcade/octets"
	"cavalcade/tree"
)

const top = 1 << 40

func num(n int) string {
	s, _ := octets.Number(n)
	return s
}

// hash says by itself, from the document's words, what a block's hash is.
func hash(b api.Block) api.Hash {
	l := []string{num(b.Number), num(b.Salt), string(b.Parent[:])}
	for _, i := range b.Items {
		s, _ := notes.WriteItem(i)
		l = append(l, s)
	}
	s, _ := octets.List(l...)
	return digest.Sum(s)
}

func item(s string) api.Item { return api.Item{Kind: api.IDelayed, By: 1, Text: s} }

func same(a, b api.Block) bool {
	return a.Number == b.Number && a.Salt == b.Salt && a.Parent == b.Parent && slices.Equal(a.Items, b.Items)
}

func newChain(t *testing.T, depth int) *tree.Chain {
	t.Helper()
	c, e := tree.New(depth)
	if c == nil || e != api.OK {
		t.Fatalf("New(%d): %d", depth, e)
	}
	return c
}

// looks holds a chain against the blocks that it should have.
func looks(t *testing.T, c *tree.Chain, depth, deepest int, blocks []api.Block) {
	t.Helper()
	n := len(blocks) - 1
	if c.Height() != n || c.Final() != max(0, n-depth) || c.Deepest() != deepest {
		t.Fatalf("%d, %d, %d, not %d, %d, %d", c.Height(), c.Final(), c.Deepest(), n, max(0, n-depth), deepest)
	}
	for i, b := range blocks {
		x, e := c.Block(i)
		if !same(x, b) || e != api.OK {
			t.Fatalf("block %d: %v, not %v: %d", i, x, b, e)
		}
		if h, e := c.Hash(i); h != hash(b) || e != api.OK {
			t.Fatalf("hash of block %d: %d", i, e)
		}
		if at, ok := c.Find(hash(b)); at != i || !ok {
			t.Fatalf("block %d is found as %d, %v", i, at, ok)
		}
		if i > 0 && b.Parent != hash(blocks[i-1]) {
			t.Fatalf("block %d is not linked", i)
		}
	}
	for _, i := range []int{-1, n + 1, math.MaxInt, math.MinInt} {
		if x, e := c.Block(i); !same(x, api.Block{}) || e != api.ErrBlock {
			t.Fatalf("block %d: %d", i, e)
		}
		if h, e := c.Hash(i); h != (api.Hash{}) || e != api.ErrBlock {
			t.Fatalf("hash of block %d: %d", i, e)
		}
	}
	for _, i := range []int{-1, math.MinInt, 0, n / 2, n, n + 1, math.MaxInt} {
		if l := c.Upto(i); !slices.EqualFunc(l, blocks[:max(0, min(i, n)+1)], same) {
			t.Fatalf("up to %d: %d blocks", i, len(l))
		}
	}
	if at, ok := c.Find(api.Hash{}); at != 0 || ok {
		t.Fatal("a hash of none is found")
	}
}

// chain is a chain of plain blocks that does by itself what the document says.
type chain []api.Block

func (c chain) mine(items []api.Item, salt int) chain {
	last := c[len(c)-1]
	return append(c[:len(c):len(c)], api.Block{Number: last.Number + 1, Salt: salt, Parent: hash(last), Items: items})
}

func TestHash(t *testing.T) {
	many := make([]api.Item, 32)
	for i := range many {
		many[i] = item(strings.Repeat("m", i))
	}
	for i, b := range []api.Block{
		{}, {Number: top, Salt: top, Parent: api.Hash{1, 31: 2}}, {Number: 1, Items: []api.Item{item("a"), {Kind: api.IForce, N: 2}, {Kind: api.IBatch, By: 64, Text: "p"}}}, {Items: many},
		{Items: []api.Item{item(strings.Repeat("b", 65400))}},
	} {
		if h, e := tree.Hash(b); h != hash(b) || e != api.OK {
			t.Errorf("%d: %d", i, e)
		}
	}
	big := item(strings.Repeat("b", 65472))
	for i, c := range []struct {
		b api.Block
		e api.Errno
	}{
		{api.Block{Number: -1}, api.ErrArg}, {api.Block{Number: top + 1}, api.ErrArg}, {api.Block{Salt: -1}, api.ErrArg}, {api.Block{Salt: top + 1}, api.ErrArg}, {api.Block{Salt: math.MinInt}, api.ErrArg},
		{api.Block{Items: make([]api.Item, 33)}, api.ErrArg}, {api.Block{Items: append(many, item(""))}, api.ErrArg}, {api.Block{Items: []api.Item{{}}}, api.ErrArg},
		{api.Block{Items: []api.Item{item(""), {Kind: 2, N: -1}}}, api.ErrArg}, {api.Block{Items: []api.Item{big, big, {Kind: 4}}}, api.ErrArg},
		{api.Block{Items: []api.Item{big, item("x")}}, api.ErrBig}, {api.Block{Items: []api.Item{big, big}}, api.ErrBig},
	} {
		if h, e := tree.Hash(c.b); h != (api.Hash{}) || e != c.e {
			t.Errorf("bad %d: %d, not %d", i, e, c.e)
		}
	}
}

func TestNew(t *testing.T) {
	for _, depth := range []int{-1, 4097, math.MinInt, math.MaxInt} {
		if c, e := tree.New(depth); c != nil || e != api.ErrArg {
			t.Errorf("New(%d): %d", depth, e)
		}
	}
	for _, depth := range []int{0, 1, 4096} {
		looks(t, newChain(t, depth), depth, 0, chain{{}})
	}
}

func TestExample(t *testing.T) {
	c := newChain(t, 1)
	c.Mine(nil, 0)
	c.Mine(nil, 0)
	if c.Height() != 2 || c.Final() != 1 {
		t.Error(c.Height(), c.Final())
	}
	if e := c.Turn(1, make([][]api.Item, 1), 0); e != api.ErrArg {
		t.Error(int(e))
	}
	if e := c.Turn(1, make([][]api.Item, 2), 0); e != api.OK || c.Height() != 3 || c.Deepest() != 1 {
		t.Error(int(e), c.Height(), c.Deepest())
	}
}

func TestMine(t *testing.T) {
	c, x := newChain(t, 2), chain{{}}
	for i, items := range [][]api.Item{nil, {item("a")}, {}, {item("b"), item("c")}, nil} {
		x = x.mine(items, i%3)
		if h, e := c.Mine(items, i%3); h != hash(x[i+1]) || e != api.OK {
			t.Errorf("%d: %d", i, e)
		}
		looks(t, c, 2, 0, x)
	}
	big := item(strings.Repeat("b", 65472))
	for i, m := range []struct {
		items []api.Item
		salt  int
		e     api.Errno
	}{{nil, -1, api.ErrArg}, {nil, top + 1, api.ErrArg}, {make([]api.Item, 33), 0, api.ErrArg}, {[]api.Item{{}}, 0, api.ErrArg}, {[]api.Item{big, big}, 0, api.ErrBig}} {
		if h, e := c.Mine(m.items, m.salt); h != (api.Hash{}) || e != m.e {
			t.Errorf("bad %d: %d", i, e)
		}
	}
	looks(t, c, 2, 0, x)
}

func TestTurn(t *testing.T) {
	c, x := newChain(t, 1), chain{{}}
	for i := range 5 {
		items := []api.Item{item(strconv.Itoa(i))}
		if i == 3 {
			items = nil
		}
		c.Mine(items, 7)
		x = x.mine(items, 7)
	}
	deepest := 0
	for i, turn := range []struct {
		under, salt int
		blocks      [][]api.Item
	}{
		{0, 1, [][]api.Item{{item("z")}}},
		{1, 2, [][]api.Item{{item("y")}, nil}},
		{2, 2, [][]api.Item{{item("y")}, nil, nil}},
		{3, 2, [][]api.Item{nil, nil, {item("x"), item("x")}, nil}},
		{3, 2, [][]api.Item{nil, nil, nil, nil}},
		{1, 0, [][]api.Item{nil, nil}},
		{0, 0, [][]api.Item{nil, nil, nil}},
		{12, 9, slices.Repeat([][]api.Item{nil, {item("w")}}, 9)},
	} {
		if e := c.Turn(turn.under, turn.blocks, turn.salt); e != api.OK {
			t.Fatalf("%d: %d", i, e)
		}
		x = x[:len(x)-turn.under]
		for _, items := range turn.blocks {
			x = x.mine(items, turn.salt)
		}
		deepest = max(deepest, turn.under)
		looks(t, c, 1, deepest, x)
	}
	n := c.Height()
	if e := c.Turn(n, make([][]api.Item, n+1), 3); e != api.OK || c.Height() != n+1 || c.Deepest() != n {
		t.Errorf("all of it: %d, %d", e, c.Height())
	}
}

func TestTurnErrors(t *testing.T) {
	c, x := newChain(t, 1), chain{{}}
	for i := range 3 {
		c.Mine([]api.Item{item(strconv.Itoa(i))}, i)
		x = x.mine([]api.Item{item(strconv.Itoa(i))}, i)
	}
	big := item(strings.Repeat("b", 65472))
	bad, tooBig := []api.Item{{}}, []api.Item{big, big}
	for i, turn := range []struct {
		under  int
		blocks [][]api.Item
		salt   int
		e      api.Errno
	}{
		{-1, nil, 0, api.ErrArg}, {math.MinInt, make([][]api.Item, 9), 0, api.ErrArg},
		{4, make([][]api.Item, 9), 0, api.ErrDeep}, {4, nil, 0, api.ErrDeep}, {math.MaxInt, [][]api.Item{bad}, -1, api.ErrDeep},
		{0, nil, 0, api.ErrArg}, {1, make([][]api.Item, 1), 0, api.ErrArg}, {3, make([][]api.Item, 3), -1, api.ErrArg}, {1, [][]api.Item{tooBig}, 0, api.ErrArg},
		{3, make([][]api.Item, 4097), -1, api.ErrFull}, {0, make([][]api.Item, 4094), 0, api.ErrFull}, {1, append(make([][]api.Item, 4095), bad), 0, api.ErrFull},
		{1, make([][]api.Item, 2), -1, api.ErrArg}, {1, make([][]api.Item, 2), top + 1, api.ErrArg},
		{1, [][]api.Item{nil, bad}, 0, api.ErrArg}, {1, [][]api.Item{bad, tooBig}, 0, api.ErrArg}, {1, [][]api.Item{nil, tooBig, bad}, 0, api.ErrBig}, {0, [][]api.Item{make([]api.Item, 33)}, 0, api.ErrArg},
	} {
		if e := c.Turn(turn.under, turn.blocks, turn.salt); e != turn.e {
			t.Errorf("%d: %d, not %d", i, e, turn.e)
		}
		looks(t, c, 1, 0, x)
	}
}

func TestFull(t *testing.T) {
	c := newChain(t, 0)
	for range 4096 {
		if _, e := c.Mine(nil, 0); e != api.OK {
			t.Fatal(int(e))
		}
	}
	if h, e := c.Mine([]api.Item{{}}, -1); h != (api.Hash{}) || e != api.ErrFull || c.Height() != 4096 {
		t.Errorf("%d, %d", e, c.Height())
	}
	if e := c.Turn(2, make([][]api.Item, 3), 0); e != api.ErrFull {
		t.Error(int(e))
	}
	d := newChain(t, 4096)
	if e := d.Turn(0, make([][]api.Item, 4096), 0); e != api.OK || d.Height() != 4096 || d.Final() != 0 {
		t.Error(int(e))
	}
	if e := d.Turn(0, make([][]api.Item, 1), 0); e != api.ErrFull {
		t.Error(int(e))
	}
	f := newChain(t, 0)
	f.Turn(0, make([][]api.Item, 4000), 0)
	if e := f.Turn(50, make([][]api.Item, 147), 0); e != api.ErrFull || f.Height() != 4000 {
		t.Error(int(e))
	}
	if e := f.Turn(50, make([][]api.Item, 146), 0); e != api.OK || f.Height() != 4096 {
		t.Error(int(e))
	}
}

func TestNil(t *testing.T) {
	var c *tree.Chain
	if h, e := c.Mine(nil, -1); h != (api.Hash{}) || e != api.ErrNil {
		t.Error(int(e))
	}
	if e := c.Turn(-1, nil, 0); e != api.ErrNil {
		t.Error(int(e))
	}
	if c.Height() != 0 || c.Final() != 0 || c.Deepest() != 0 || len(c.Upto(9)) != 0 {
		t.Error("of nil")
	}
	if b, e := c.Block(0); !same(b, api.Block{}) || e != api.ErrNil {
		t.Error(int(e))
	}
	if h, e := c.Hash(-1); h != (api.Hash{}) || e != api.ErrNil {
		t.Error(int(e))
	}
	if n, ok := c.Find(hash(api.Block{})); n != 0 || ok {
		t.Error(n, ok)
	}
}

// What is handed in and out is not what the chain keeps.
func TestApart(t *testing.T) {
	c := newChain(t, 0)
	items := []api.Item{item("a"), item("b"), item("spare")}
	c.Mine(items[:2], 0)
	turned := [][]api.Item{items[:1]}
	c.Turn(0, turned, 0)
	if items[2] != item("spare") {
		t.Error("spare room was used")
	}
	x := chain{{}}.mine([]api.Item{item("a"), item("b")}, 0).mine([]api.Item{item("a")}, 0)
	items[0], items[1] = item("c"), item("d")
	b, _ := c.Block(1)
	b.Items[0] = item("e")
	l := c.Upto(2)
	l[1].Items[0], l[2].Items[0] = item("f"), item("f")
	looks(t, c, 0, 0, x)
}

// As long as no turn is deeper than the depth, final blocks stay.
func TestFinalStays(t *testing.T) {
	r := rand.New(rand.NewSource(11))
	for depth := range 5 {
		c := newChain(t, depth)
		var final []api.Block
		for i := range 60 {
			if under := r.Intn(depth + 1); r.Intn(2) == 0 && under <= c.Height() {
				c.Turn(under, make([][]api.Item, under+1+r.Intn(3)), i)
			} else {
				c.Mine([]api.Item{item(strconv.Itoa(i))}, i)
			}
			now := c.Upto(c.Final())
			if len(now) < len(final) || !slices.EqualFunc(now[:len(final)], final, same) {
				t.Fatalf("depth %d: a final block has changed", depth)
			}
			final = now
		}
	}
}
