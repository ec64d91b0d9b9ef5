package rollup

import (
	"slices"

	"cavalcade/api"
	"cavalcade/box"
	"cavalcade/cut"
	"cavalcade/inbox"
)

// byOther is who lays copies of posts on the chain.
const byOther = 0

// block makes a block's items, and tells which posts are on their way then.
func (w *World) block(m api.Mined, way []api.Made) ([]api.Item, []api.Made) {
	items := slices.Clone(m.Items)
	put := func(by int, p api.Made) {
		items = append(items, api.Item{Kind: api.IBatch, By: by, Text: p.Text})
	}
	n := min(max(m.Take, 0), len(way))
	for _, p := range way[:n] {
		put(api.MaxWho, p)
	}
	for _, seq := range m.Copies {
		if at := find(w.made, seq); at >= 0 {
			put(byOther, w.made[at])
		}
	}
	return items, way[n:]
}

// find tells where the post of a batch stands; -1: there is none.
func find(l []api.Made, seq int) int {
	return slices.IndexFunc(l, func(p api.Made) bool { return p.Seq == seq })
}

// Mine mines a block.
func (w *World) Mine(m api.Mined) api.Errno {
	if w == nil {
		return api.ErrNil
	}
	items, way := w.block(m, w.way)
	if _, e := w.chain.Mine(items, m.Salt); e != api.OK {
		return e
	}
	w.grown(way)
	return api.OK
}

// Turn turns the chain.
func (w *World) Turn(under int, l []api.Mined, salt int) api.Errno {
	if w == nil {
		return api.ErrNil
	}
	way := w.way
	blocks := make([][]api.Item, len(l))
	for i, m := range l {
		blocks[i], way = w.block(m, way)
	}
	if e := w.chain.Turn(under, blocks, salt); e != api.OK {
		return e
	}
	w.grown(way)
	return api.OK
}

// grown takes in that the chain is another one.
func (w *World) grown(way []api.Made) {
	w.way = slices.Clone(way)
	w.inbox = inbox.Messages(w.Blocks(true))
	w.look()
}

// look lets a node that is up halt, if it must, or hand over posts.
func (w *World) look() {
	if !w.Up() {
		return
	}
	if w.Halted() {
		w.node.leave(w.ending(api.ErrHalt))
		return
	}
	cuts := w.node.store.Cuts()
	if len(cuts) == 0 {
		return
	}
	landed := len(box.Landed(w.Blocks(false)))
	for _, seq := range w.node.poster.Look(w.Height(), landed, len(cuts)) {
		w.post(cuts[seq])
	}
}

// post makes a cut's post, which is on its way then.
func (w *World) post(c api.Cut) {
	b, _ := cut.Make(c, w.node.store.From(c.First)[:c.Count])
	s, _ := box.Write(b)
	p := api.Made{Seq: c.Seq, Text: s}
	w.made = append(w.made, p)
	if find(w.way, c.Seq) < 0 {
		w.way = append(w.way, p)
	}
}
