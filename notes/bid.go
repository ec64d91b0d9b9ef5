package notes

import (
	"cavalcade/api"
	"cavalcade/octets"
	"cavalcade/seal"
)

func bidMayBe(b api.Bid) bool {
	return account(b.By) && number(b.Round) && number(b.Amount) && number(b.Salt)
}

func bidNumbers(b api.Bid) []string { return numbers(b.Round, b.By, b.Amount, b.Salt) }

// WriteBid lays a bid.
func WriteBid(b api.Bid) (string, api.Errno) {
	if !bidMayBe(b) {
		return "", api.ErrArg
	}
	return octets.List(append(bidNumbers(b), string(b.Tag[:]))...)
}

// ReadBid reads a bid.
func ReadBid(s string) (api.Bid, api.Errno) {
	l, ok := fields(s)
	if !ok {
		return api.Bid{}, api.ErrForm
	}
	var b api.Bid
	rest, ok := read(l, &b.Round, &b.By, &b.Amount, &b.Salt)
	if !ok || !hashes(rest, &b.Tag) || !bidMayBe(b) {
		return api.Bid{}, api.ErrForm
	}
	return b, api.OK
}

// SignBid lets its author sign it.
func SignBid(b api.Bid) (api.Bid, api.Errno) {
	if !bidMayBe(b) {
		return api.Bid{}, api.ErrArg
	}
	body, _ := octets.List(bidNumbers(b)...)
	b.Tag, _ = seal.Tag(b.By, api.DBid, body)
	return b, api.OK
}

// CheckBid tells whether its author signed it.
func CheckBid(b api.Bid) api.Errno {
	if !bidMayBe(b) {
		return api.ErrArg
	}
	body, _ := octets.List(bidNumbers(b)...)
	return seal.Check(b.By, api.DBid, body, b.Tag)
}
