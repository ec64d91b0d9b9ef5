package journal

import (
	"cavalcade/api"
	"cavalcade/crate"
	"cavalcade/octets"
)

// sumSize is how many bytes a record's sum has.
const sumSize = 4

// lay makes the bytes of the record with the number i.
func lay(i int, s string) string {
	n, _ := octets.Number(len(s))
	return n + sum(i, s) + s
}

// sum hangs on the record's number, too: a record elsewhere than in its place is none.
func sum(i int, s string) string {
	n, _ := octets.Number(i)
	c := crate.Sum(n + s)
	return string([]byte{byte(c >> 24), byte(c >> 16), byte(c >> 8), byte(c)})
}

// Parse tells a file's records.
func Parse(s string) ([]string, int) {
	var l []string
	at := 0
next:
	record, behind, ok := read(s, at, len(l))
	if ok {
		l = append(l, record)
		at = behind
		goto next
	}
	return l[:len(l):len(l)], at
}

// read reads the record with the number i that stands at a place, and tells the place behind it.
func read(s string, at, i int) (string, int, bool) {
	n, at, e := octets.ReadNumber(s, at)
	if e != api.OK || n > MaxRecord || len(s)-at < sumSize+n {
		return "", 0, false
	}
	from := at + sumSize
	record := s[from : from+n]
	if s[at:from] != sum(i, record) {
		return "", 0, false
	}
	return record, from + n, true
}
