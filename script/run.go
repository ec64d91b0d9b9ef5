package script

import (
	"strconv"
	"strings"

	"cavalcade/api"
	"cavalcade/notes"
	"cavalcade/rollup"
	"cavalcade/tx"
)

// maxTicks is how many ticks a line lets go by.
const maxTicks = 1024

// player is a world, and what the next block is to have.
type player struct {
	world  *rollup.World
	items  []api.Item
	handed int // how many things were handed in
}

// Run answers a script.
func Run(s api.Script) string {
	w, e := rollup.New(s.Net)
	if e != api.OK {
		return numbered("net", int(e)) + lineEnd
	}
	p := &player{world: w}
	var b strings.Builder
	for _, l := range s.Lines {
		b.WriteString(p.answer(l))
		b.WriteString(lineEnd)
	}
	return b.String()
}

func numbered(word string, n int) string { return word + " " + strconv.Itoa(n) }

// said is the answer of what has no other one.
func said(e api.Errno) string {
	if e != api.OK {
		return numbered("error", int(e))
	}
	return "ok"
}

// answer does what a line says.
func (p *player) answer(l api.Line) string {
	switch l.Kind {
	case api.LSend, api.LLane:
		return p.send(l)
	case api.LText:
		return p.hand(l.Data)
	case api.LTick:
		for range min(l.N, maxTicks) {
			p.world.Tick()
		}
		return numbered("tick", p.world.Now())
	case api.LDelayed:
		return p.item(api.Item{Kind: api.IDelayed, By: l.By, Text: l.Data})
	case api.LForce:
		return p.item(api.Item{Kind: api.IForce, N: l.N})
	case api.LPost:
		return p.item(api.Item{Kind: api.IBatch, By: l.By, Text: l.Data})
	case api.LMine:
		return said(p.mined(p.world.Mine(api.Mined{Items: p.items, Take: l.N, Salt: l.Salt})))
	case api.LTurn:
		return said(p.mined(p.turn(l)))
	case api.LBid:
		b, e := notes.SignBid(api.Bid{Round: l.Round, By: l.By, Amount: l.N, Salt: l.Salt})
		if e != api.OK {
			return numbered("bad", int(e))
		}
		return said(p.world.Bid(b))
	case api.LShow:
		return p.show()
	}
	return said(p.lead(l))
}

// lead does what is answered by an error alone.
func (p *player) lead(l api.Line) api.Errno {
	switch l.Kind {
	case api.LCrash:
		return p.world.Crash([]int{l.N})
	case api.LStart:
		return p.world.Start()
	case api.LArm:
		return p.world.Arm(l.N)
	case api.LFund:
		return p.world.Deposit(l.By, l.N)
	}
	return api.ErrLine
}

// send hands a transaction in, if there is such a one.
func (p *player) send(l api.Line) string {
	t := api.Tx{From: l.From, Nonce: l.Nonce, Fee: l.Fee, To: l.To, Data: l.Data}
	if l.Kind == api.LLane {
		t.Lane, t.Round, t.Turn = true, l.Round, l.Turn
	}
	t, e := tx.Sign(t)
	if e == api.OK && t.Lane {
		t, e = tx.Hand(t, l.By)
	}
	if e != api.OK {
		return numbered("bad", int(e))
	}
	s, _ := tx.Text(t)
	return p.hand(s)
}

func (p *player) hand(s string) string {
	p.handed++
	return numbered("in", p.world.Submit(s))
}

// item keeps an item for the next block.
func (p *player) item(i api.Item) string {
	p.items = append(p.items, i)
	return "item"
}

// mined takes the answer of a block that was to be: with an error its items stay.
func (p *player) mined(e api.Errno) api.Errno {
	if e == api.OK {
		p.items = nil
	}
	return e
}

// turn turns the last blocks into one more.
func (p *player) turn(l api.Line) api.Errno {
	// Of more blocks than there are none need be made: the chain refuses.
	if l.N < 0 || l.N > p.world.Height() {
		return p.world.Turn(l.N, nil, l.Salt)
	}
	blocks := make([]api.Mined, l.N+1)
	for i := range blocks {
		blocks[i].Take = 1
	}
	blocks[0].Items = p.items
	return p.world.Turn(l.N, blocks, l.Salt)
}

// show tells the world in one line.
func (p *player) show() string {
	w := p.world
	told, stream := w.Told(), w.Stream(true)
	head := none
	if n := len(told); n > 0 {
		head = hex(string(told[n-1].Hash[:4]))
	}
	words := []string{"show", strconv.Itoa(len(told)), head, p.state()}
	for _, n := range []int{w.Height(), len(stream.Messages), stream.Taken, w.Way()} {
		words = append(words, strconv.Itoa(n))
	}
	for i := range p.handed {
		r, _ := w.Result(i)
		words = append(words, became(r))
	}
	return strings.Join(words, " ")
}

func (p *player) state() string {
	switch {
	case p.world.Halted():
		return "halted"
	case p.world.Up():
		return "up"
	}
	return "down"
}

// became tells what became of something that was handed in.
func became(r api.Result) string {
	switch {
	case !r.Done:
		return "w"
	case r.E != api.OK:
		return "e" + strconv.Itoa(int(r.E))
	}
	return strconv.Itoa(r.Index)
}
