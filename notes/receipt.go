package notes

import (
	"cavalcade/api"
	"cavalcade/digest"
	"cavalcade/octets"
)

// maxBody is how many bytes a message has.
const maxBody = api.MaxData + 400

// linked tells whether a receipt may be, but for its Hash.
func linked(r api.Receipt) bool {
	return (r.Kind == api.MTx || r.Kind == api.MDelayed) && number(r.Index) && number(r.Time) && len(r.Body) <= maxBody
}

func receiptTexts(r api.Receipt) []string {
	return append(numbers(r.Index, r.Kind, r.Time), r.Body)
}

// link is the Hash that a receipt is to have.
func link(r api.Receipt) api.Hash {
	s, _ := octets.List(receiptTexts(r)...)
	return digest.Chain(r.Prev, s)
}

// Link is the receipt behind another one.
func Link(prev api.Hash, index, kind, time int, body string) (api.Receipt, api.Errno) {
	r := api.Receipt{Index: index, Kind: kind, Time: time, Body: body, Prev: prev}
	if !linked(r) {
		return api.Receipt{}, api.ErrArg
	}
	r.Hash = link(r)
	return r, api.OK
}

// WriteReceipt lays a receipt.
func WriteReceipt(r api.Receipt) (string, api.Errno) {
	if !linked(r) {
		return "", api.ErrArg
	}
	if r.Hash != link(r) {
		return "", api.ErrSum
	}
	return octets.List(append(receiptTexts(r), string(r.Prev[:]), string(r.Hash[:]))...)
}

// ReadReceipt reads a receipt.
func ReadReceipt(s string) (api.Receipt, api.Errno) {
	l, ok := fields(s)
	if !ok {
		return api.Receipt{}, api.ErrForm
	}
	var r api.Receipt
	rest, ok := read(l, &r.Index, &r.Kind, &r.Time)
	if !ok || len(rest) == 0 || !hashes(rest[1:], &r.Prev, &r.Hash) {
		return api.Receipt{}, api.ErrForm
	}
	r.Body = rest[0]
	if !linked(r) || r.Hash != link(r) {
		return api.Receipt{}, api.ErrForm
	}
	return r, api.OK
}
