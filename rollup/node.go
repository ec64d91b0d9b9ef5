package rollup

import (
	"math"

	"cavalcade/admit"
	"cavalcade/api"
	"cavalcade/pool"
	"cavalcade/post"
	"cavalcade/store"
)

// node is one that is up.
type node struct {
	store  *store.Store
	gate   *admit.Gate
	pool   *pool.Pool
	poster *post.Poster
}

// newNode makes a node whose gate has done all that its store has.
func newNode(s *store.Store, net api.Net) *node {
	n := &node{store: s}
	n.gate, _ = admit.New(net.Floor)
	n.pool, _ = pool.New(net.Pool)
	n.poster, _ = post.New(net.Patience, net.Window)
	for _, r := range s.From(0) {
		if r.Kind == api.MTx {
			t, _ := n.gate.Enter(r.Body)
			n.gate.Done(t)
		}
	}
	return n
}

// leave lets all that waits go, and tells each of it its end.
func (n *node) leave(end func(w api.Wait)) {
	for _, w := range n.pool.Old(math.MaxInt) {
		n.gate.Leave(w.Tx)
		end(w)
	}
}

// ending makes a function that tells what waits its end with an error.
func (w *World) ending(e api.Errno) func(x api.Wait) {
	return func(x api.Wait) { w.end(x.Index, e) }
}

func (w *World) end(i int, e api.Errno) { w.results[i] = api.Result{Done: true, E: e} }

// Submit hands a text in.
func (w *World) Submit(s string) int {
	if w == nil {
		return 0
	}
	i := len(w.results)
	w.results = append(w.results, api.Result{})
	if e := w.hand(s, i); e != api.OK {
		w.end(i, e)
	}
	return i
}

// hand lets a text wait, or tells why it does not.
func (w *World) hand(s string, i int) api.Errno {
	if !w.Up() {
		return api.ErrDown
	}
	if w.Halted() {
		return api.ErrHalt
	}
	t, e := w.node.gate.Enter(s)
	if e != api.OK {
		return e
	}
	if e := w.queue(t, i); e != api.OK {
		w.node.gate.Leave(t)
		return e
	}
	return api.OK
}

// queue puts a transaction that is in the gate into the pool.
func (w *World) queue(t api.Tx, i int) api.Errno {
	x := api.Wait{Tx: t, Index: i, Till: w.now + w.net.Stay, At: w.now, Place: i}
	if !t.Lane {
		x.At += w.net.Delay
	} else if e := w.lane.Check(t, w.now); e != api.OK {
		return e
	}
	out, full, e := w.node.pool.Put(x)
	if e != api.OK {
		return e
	}
	if t.Lane {
		w.lane.Take(t, w.now)
	}
	if full {
		w.node.gate.Leave(out.Tx)
		w.end(out.Index, api.ErrFull)
	}
	return api.OK
}

// fall lets the node be down.
func (w *World) fall() {
	if w.node != nil {
		w.node.leave(w.ending(api.ErrDown))
		w.node = nil
	}
}

// tell tells all receipts of the node's store that were not told yet.
func (w *World) tell() {
	w.told = append(w.told, w.node.store.From(len(w.told))...)
}

// Start lets the node be up.
func (w *World) Start() api.Errno {
	if w == nil {
		return api.ErrNil
	}
	if w.Up() {
		return api.ErrTwice
	}
	s, e := store.Open(w.disk)
	if e != api.OK {
		return e
	}
	w.node = newNode(s, w.net)
	w.look()
	if !w.Halted() {
		w.tell()
	}
	return api.OK
}

// Crash lets the node be down, and the disk crash.
func (w *World) Crash(keep []int) api.Errno {
	if w == nil {
		return api.ErrNil
	}
	w.fall()
	return w.disk.Crash(keep)
}

// Arm lets the disk go down soon.
func (w *World) Arm(n int) api.Errno {
	if w == nil {
		return api.ErrNil
	}
	return w.disk.Arm(n)
}

// Compact lays the journal anew.
func (w *World) Compact() api.Errno {
	if w == nil {
		return api.ErrNil
	}
	if !w.Up() {
		return api.ErrDown
	}
	e := w.node.store.Compact()
	if e != api.OK {
		w.fall()
	}
	return e
}
