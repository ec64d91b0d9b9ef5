package tx

import (
	"cavalcade/api"
	"cavalcade/octets"
)

// How many texts the body's list has.
const (
	plainFields = 5
	laneFields  = 7
)

// Read reads a transaction.
func Read(s string) (api.Tx, api.Errno) {
	outer, e := list(s)
	if e != api.OK {
		return api.Tx{}, e
	}
	if len(outer) != 2 && len(outer) != 3 {
		return api.Tx{}, api.ErrForm
	}
	var t api.Tx
	for i, h := range outer[1:] {
		if len(h) != len(t.Tag) {
			return api.Tx{}, api.ErrForm
		}
		if i == 0 {
			t.Tag = api.Hash([]byte(h))
		} else {
			t.By, t.Lane = api.Hash([]byte(h)), true
		}
	}
	if e := readBody(outer[0], &t); e != api.OK {
		return api.Tx{}, e
	}
	if e := Check(t); e != api.OK {
		return api.Tx{}, e
	}
	return t, api.OK
}

// readBody puts what the body says into the transaction.
func readBody(s string, t *api.Tx) api.Errno {
	l, e := list(s)
	if e != api.OK {
		return e
	}
	if t.Lane && len(l) != laneFields || !t.Lane && len(l) != plainFields {
		return api.ErrForm
	}
	t.Data = l[4]
	places := []*int{&t.From, &t.Nonce, &t.Fee, &t.To, nil, &t.Round, &t.Turn}
	for i, s := range l {
		if places[i] == nil {
			continue
		}
		n, e := whole(s)
		if e != api.OK {
			return e
		}
		*places[i] = n
	}
	return api.OK
}

// list reads a list that nothing stands behind.
func list(s string) ([]string, api.Errno) {
	l, at, e := octets.ReadList(s, 0)
	if e != api.OK {
		return nil, e
	}
	if at != len(s) {
		return nil, api.ErrForm
	}
	return l, api.OK
}

// whole reads a number that nothing stands behind.
func whole(s string) (int, api.Errno) {
	n, at, e := octets.ReadNumber(s, 0)
	if e != api.OK {
		return 0, e
	}
	if at != len(s) {
		return 0, api.ErrForm
	}
	return n, api.OK
}
