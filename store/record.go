package store

import (
	"cavalcade/api"
	"cavalcade/notes"
	"cavalcade/octets"
)

// The bytes that begin a record.
const (
	receiptRecord = "\x01"
	cutRecord     = "\x02"
)

func layReceipt(r api.Receipt) string {
	s, _ := notes.WriteReceipt(r)
	return receiptRecord + s
}

func layCut(c api.Cut) string {
	var l []string
	for _, n := range []int{c.Seq, c.First, c.Before, c.Count} {
		s, _ := octets.Number(n)
		l = append(l, s)
	}
	s, _ := octets.List(l...)
	return cutRecord + s
}

// split tells what kind a record is of (none: nothing), and what stands behind that.
func split(s string) (string, string) {
	if s == "" || s[:1] != receiptRecord && s[:1] != cutRecord {
		return "", ""
	}
	return s[:1], s[1:]
}

// loadReceipt takes the next receipt; it tells whether it was that.
func (s *Store) loadReceipt(body string) bool {
	r, e := notes.ReadReceipt(body)
	return e == api.OK && s.log.Load(r) == api.OK
}

// loadCut takes the next cut; it tells whether it was that.
func (s *Store) loadCut(body string) bool {
	l, _, e := octets.ReadList(body, 0)
	if e != api.OK || len(l) == 0 {
		return false
	}
	count, _, e := octets.ReadNumber(l[len(l)-1], 0)
	if e != api.OK {
		return false
	}
	// There is one next cut of so many receipts, and one way to lay it.
	c, e := s.nextCut(count)
	if e != api.OK || layCut(c) != cutRecord+body {
		return false
	}
	s.cuts = append(s.cuts, c)
	return true
}
