package window

import "cavalcade/api"

// four is as many bytes as the shortest match has.
type four [least]byte

// known is the static text and what is packed behind it, with the places at which four bytes stood.
type known struct {
	text  string
	last  map[four]int
	ahead []int // of each place the one ahead at which the same four bytes stand, or -1
}

func newKnown(s string) *known {
	k := &known{text: Static + s, last: map[four]int{}}
	k.ahead = make([]int, len(k.text))
	for i := range Static {
		k.put(i)
	}
	return k
}

// fourAt tells the four bytes of a place, if there are so many.
func (k *known) fourAt(at int) (four, bool) {
	if len(k.text)-at < least {
		return four{}, false
	}
	return four([]byte(k.text[at : at+least])), true
}

// put makes a place one at which a match can begin.
func (k *known) put(at int) {
	f, ok := k.fourAt(at)
	if !ok {
		return
	}
	before, met := k.last[f]
	if !met {
		before = -1
	}
	k.ahead[at] = before
	k.last[f] = at
}

// longest tells how long the longest match at a place is, and how far back it begins; 0: there is none.
// The nearest places come first, so that of equally long ones the nearest stays.
func (k *known) longest(at int) (int, int) {
	f, ok := k.fourAt(at)
	if !ok {
		return 0, 0
	}
	from, met := k.last[f]
	if !met {
		from = -1
	}
	most := min(len(k.text)-at, api.MaxRun)
	best, back := 0, 0
further:
	if from < 0 || at-from > api.MaxBack || best == most {
		return best, back
	}
	if n := k.same(from, at, best, most); n > best {
		best, back = n, at-from
	}
	from = k.ahead[from]
	goto further
}

// same tells how many bytes at two places are the same; it need not count where they are not more than best.
func (k *known) same(from, at, best, most int) int {
	if k.text[from+best] != k.text[at+best] {
		return 0
	}
	n := 0
	for n < most && k.text[from+n] == k.text[at+n] {
		n++
	}
	return n
}
