package box_test

import (
	"math"
	"slices"
	"strings"
	"testing"

	"cavalcade/api"
	"cavalcade/box"
	"cavalcade/crate"
	"cavalcade/notes"
	"cavalcade/octets"
	"cavalcade/seal"
)

func list(l ...string) string {
	s, e := octets.List(l...)
	if e != api.OK {
		panic("list")
	}
	return s
}

// sealed makes a post of whatever stands for the crate.
func sealed(c string) string {
	tag, _ := seal.Tag(64, api.DBatch, c)
	return list(c, string(tag[:]))
}

// raw is a crate by the way 0.
func raw(s string) string {
	n, _ := octets.Number(len(s))
	c := crate.Sum(s)
	return "\x00" + n + string([]byte{byte(c >> 24), byte(c >> 16), byte(c >> 8), byte(c)}) + s
}

func same(a, b api.Batch) bool {
	return a.Seq == b.Seq && a.First == b.First && a.Before == b.Before && slices.Equal(a.Parts, b.Parts)
}

func batches() []api.Batch {
	return []api.Batch{
		{}, {Seq: 1, First: 2, Before: 3, Parts: []api.Part{{Delayed: true}, {Text: "transfer transfer"}}},
		{Seq: 1 << 40, Parts: slices.Repeat([]api.Part{{Text: strings.Repeat("ab", 100)}}, 64)},
	}
}

func TestThereAndBack(t *testing.T) {
	for i, b := range batches() {
		bytes, _ := notes.WriteBatch(b)
		c, _ := crate.Pack(bytes)
		s, e := box.Write(b)
		if s != sealed(c) || e != api.OK {
			t.Errorf("%d: %q, %d", i, s, e)
		}
		for _, post := range []string{s, sealed(raw(bytes))} {
			if x, e := box.Read(post); !same(x, b) || e != api.OK {
				t.Errorf("%d: %v, %d", i, x, e)
			}
		}
	}
}

func TestWriteErrors(t *testing.T) {
	many := slices.Repeat([]api.Part{{Text: strings.Repeat("p", 656)}}, 100)
	for i, c := range []struct {
		b api.Batch
		e api.Errno
	}{
		{api.Batch{Seq: -1}, api.ErrArg}, {api.Batch{First: math.MaxInt}, api.ErrArg}, {api.Batch{Parts: []api.Part{{Delayed: true, Text: "x"}}}, api.ErrArg},
		{api.Batch{Parts: many}, api.ErrBig}, {api.Batch{Parts: many[:50]}, api.ErrBig},
	} {
		if s, e := box.Write(c.b); s != "" || e != c.e {
			t.Errorf("%d: %d", i, e)
		}
	}
	if _, e := box.Write(api.Batch{Parts: many[:49]}); e != api.OK {
		t.Errorf("as many as fit: %d", e)
	}
}

func TestReadErrors(t *testing.T) {
	bytes, _ := notes.WriteBatch(batches()[1])
	c := raw(bytes)
	good := sealed(c)
	tag := good[len(good)-32:]
	other, _ := seal.Tag(63, api.DBatch, c)
	domain, _ := seal.Tag(64, api.DTx, c)
	spoilt := c[:len(c)-1] + "?"
	for i, x := range []struct {
		s string
		e api.Errno
	}{
		{"", api.ErrForm}, {"\x09", api.ErrForm}, {list(), api.ErrForm}, {list(c), api.ErrForm}, {list(c, tag, ""), api.ErrForm}, {good + "x", api.ErrForm}, {good[:len(good)-1], api.ErrForm},
		{list(c, tag[1:]), api.ErrForm}, {list(c, tag+"x"), api.ErrForm}, {list(tag, c), api.ErrForm},
		{list(c, strings.Repeat("\x00", 32)), api.ErrTag}, {list(c, string(other[:])), api.ErrTag}, {list(c, string(domain[:])), api.ErrTag}, {list(spoilt, tag), api.ErrTag}, {list("", tag), api.ErrTag},
		{sealed(spoilt), api.ErrSum}, {sealed(""), api.ErrSum}, {sealed("\x04"), api.ErrSum}, {sealed(raw(strings.Repeat("x", 32769))), api.ErrSum}, {sealed(c[:8]), api.ErrSum},
		{sealed(raw("")), api.ErrForm}, {sealed(raw(bytes + "x")), api.ErrForm}, {sealed(raw(strings.Repeat("x", 32768))), api.ErrForm},
	} {
		if b, e := box.Read(x.s); !same(b, api.Batch{}) || e != x.e {
			t.Errorf("%d: %v, %d, not %d", i, b, e, x.e)
		}
	}
}

func post(seq, first int) string {
	s, _ := box.Write(api.Batch{Seq: seq, First: first})
	return s
}

func item(by int, s string) api.Item { return api.Item{Kind: api.IBatch, By: by, Text: s} }

// told is Seq, First and Block of each that landed.
func told(l []api.Block) [][3]int {
	var out [][3]int
	for _, x := range box.Landed(l) {
		out = append(out, [3]int{x.Batch.Seq, x.Batch.First, x.Block})
	}
	return out
}

func TestLanded(t *testing.T) {
	blocks := []api.Block{
		{Number: 0},
		{Number: 1, Items: []api.Item{item(64, post(1, 10)), item(64, post(0, 0)), item(64, post(1, 11))}},
	}
	if got := told(blocks); !slices.Equal(got, [][3]int{{0, 0, 1}, {1, 11, 1}}) {
		t.Error(got)
	}
	long := sealed(raw(strings.Repeat("x", 10)))
	blocks = append(blocks,
		api.Block{Number: 2, Items: []api.Item{item(64, post(0, 5)), item(64, post(1, 5)), item(64, post(3, 0)), {Kind: api.IDelayed, Text: post(2, 0)}, {Kind: api.IBatch, N: 1, Text: post(2, 0)}}},
		api.Block{Number: 9, Items: []api.Item{item(65, post(2, 0)), item(-1, post(2, 0)), {Kind: 9, Text: post(2, 0)}, item(64, long), item(64, ""), item(64, post(2, 0)+"x")}},
		api.Block{Number: -4, Items: []api.Item{item(0, post(2, 77)), item(7, post(2, 78)), item(7, post(3, 79))}},
	)
	want := [][3]int{{0, 0, 1}, {1, 11, 1}, {2, 77, -4}, {3, 79, -4}}
	if got := told(blocks); !slices.Equal(got, want) {
		t.Error(got)
	}
	// With blocks more they begin as before.
	for n := range len(blocks) + 1 {
		got := told(blocks[:n])
		if len(got) > len(want) || !slices.Equal(got, want[:len(got)]) {
			t.Errorf("of %d blocks: %v", n, got)
		}
	}
	if len(box.Landed(nil)) != 0 {
		t.Error("of no block")
	}
}

func TestLandedHasItsParts(t *testing.T) {
	b := api.Batch{First: 4, Before: 5, Parts: []api.Part{{Text: "a"}, {Delayed: true}}}
	s, _ := box.Write(b)
	l := box.Landed([]api.Block{{Number: 3, Items: []api.Item{item(1, s)}}})
	if len(l) != 1 || l[0].Block != 3 || !same(l[0].Batch, b) {
		t.Error(l)
	}
}
