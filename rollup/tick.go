package rollup

import (
	"cavalcade/api"
	"cavalcade/cut"
	"cavalcade/derive"
	"cavalcade/tx"
)

// Tick lets time go on.
func (w *World) Tick() api.Errno {
	if w == nil {
		return api.ErrNil
	}
	if w.Up() && !w.Halted() && !w.work() {
		w.fall()
	}
	w.now++
	w.openRound()
	return api.OK
}

// openRound gives a round of the lane that begins to who has won it.
func (w *World) openRound() {
	if w.now%w.net.Length != 0 {
		return
	}
	round := w.lane.Round(w.now)
	if win, ok := w.book.Close(round, w.bank); ok {
		w.lane.Set(round, win.Bid.By)
	}
}

// work is what a node does at a tick; it tells whether the store has done all of it.
func (w *World) work() bool {
	if !w.takeInbox() || !w.takeReady() {
		return false
	}
	w.tell()
	for _, x := range w.node.pool.Old(w.now) {
		w.node.gate.Leave(x.Tx)
		w.end(x.Index, api.ErrGone)
	}
	return w.cutDue()
}

// takeInbox adds the inbox's final messages that were not taken yet.
func (w *World) takeInbox() bool {
	s := w.node.store
	for _, entry := range w.inbox[min(s.Taken(), len(w.inbox)):] {
		if _, e := s.Add(api.MDelayed, derive.Delayed(entry).Body, w.now); e != api.OK {
			return false
		}
	}
	return true
}

// takeReady adds what is ready, and syncs the store: then, and not ahead of it, it has its receipts.
func (w *World) takeReady() bool {
	n := w.node
	var added []api.Wait
	var indices []int
	good := true
ready:
	for {
		x, ok := n.pool.Next(w.now, n.store.Next)
		if !ok {
			break ready
		}
		added = append(added, x)
		body, _ := tx.Text(x.Tx)
		r, e := n.store.Add(api.MTx, body, w.now)
		if e != api.OK {
			good = false
			break ready
		}
		indices = append(indices, r.Index)
		n.gate.Done(x.Tx)
	}
	good = good && n.store.Sync() == api.OK
	for i, x := range added {
		if good {
			w.results[x.Index] = api.Result{Done: true, Index: indices[i], At: x.At, Place: x.Place}
		} else {
			w.end(x.Index, api.ErrDown)
		}
	}
	return good
}

// cutDue cuts what is due, and syncs the store.
func (w *World) cutDue() bool {
	s := w.node.store
	for {
		behind := s.From(s.Released() - s.Open1())
		n := cut.Due(behind, w.now, w.net.Rules)
		if n == 0 {
			return s.Sync() == api.OK
		}
		if _, e := s.Cut(n); e != api.OK {
			return false
		}
	}
}
