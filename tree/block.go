package tree

import (
	"slices"

	"cavalcade/api"
	"cavalcade/digest"
	"cavalcade/notes"
	"cavalcade/octets"
)

// head is a block without its items.
type head struct {
	number, salt int
	parent       api.Hash
}

// link is a block of a chain.
type link struct {
	head
	items []api.Item
	hash  api.Hash
}

func number(n int) bool { return n >= 0 && n <= api.MaxNumber }

// Hash is a block's.
func Hash(b api.Block) (api.Hash, api.Errno) {
	if !number(b.Number) || !number(b.Salt) || len(b.Items) > api.MaxItems {
		return api.Hash{}, api.ErrArg
	}
	n, _ := octets.Number(b.Number)
	salt, _ := octets.Number(b.Salt)
	texts := append(make([]string, 0, 3+len(b.Items)), n, salt, string(b.Parent[:]))
	for _, i := range b.Items {
		s, e := notes.WriteItem(i)
		if e != api.OK {
			return api.Hash{}, api.ErrArg
		}
		texts = append(texts, s)
	}
	s, e := octets.List(texts...)
	if e != api.OK {
		return api.Hash{}, e
	}
	return digest.Sum(s), api.OK
}

// makeLink makes a block of the chain. Where it takes the place of one, and both have no items and one head, they have one hash.
func makeLink(h head, items []api.Item, place link) (link, api.Errno) {
	l := link{head: h, items: slices.Clone(items)}
	if len(items) == 0 && len(place.items) == 0 && place.hash != (api.Hash{}) && h == place.head {
		l.hash = place.hash
		return l, api.OK
	}
	var e api.Errno
	l.hash, e = Hash(api.Block{Number: h.number, Salt: h.salt, Parent: h.parent, Items: items})
	return l, e
}

// block tells a block as one of its own.
func (l link) block() api.Block {
	return api.Block{Number: l.number, Salt: l.salt, Parent: l.parent, Items: slices.Clone(l.items)}
}
