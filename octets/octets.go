// Package octets is layer 1: numbers, texts and lists as bytes, each in one way.
package octets

import "cavalcade/api"

// most is how many bytes a number's own bytes are.
const most = 8

// Number lays a number: how many bytes it takes, and these, the highest first.
func Number(n int) (string, api.Errno) {
	if n < 0 {
		return "", api.ErrArg
	}
	return number(n), api.OK
}

func number(n int) string {
	var b [most + 1]byte
	at := len(b)
	for ; n > 0; n >>= 8 {
		at--
		b[at] = byte(n)
	}
	at--
	b[at] = byte(len(b) - 1 - at)
	return string(b[at:])
}

// Text lays a text: its length, and it.
func Text(s string) (string, api.Errno) {
	if len(s) > api.MaxBytes {
		return "", api.ErrBig
	}
	return join(number(len(s)), s), api.OK
}

// List lays texts: how many there are, and each of them.
func List(l ...string) (string, api.Errno) {
	if len(l) > api.MaxList {
		return "", api.ErrBig
	}
	left := api.MaxBytes
	parts := make([]string, 0, 2*len(l)+1)
	parts = append(parts, number(len(l)))
	for _, s := range l {
		if len(s) > left {
			return "", api.ErrBig
		}
		left -= len(s)
		parts = append(parts, number(len(s)), s)
	}
	return join(parts...), api.OK
}

// join puts texts one behind the other.
func join(l ...string) string {
	n := 0
	for _, s := range l {
		n += len(s)
	}
	b := make([]byte, n)
	at := 0
	for _, s := range l {
		at += copy(b[at:], s)
	}
	return string(b)
}

// ReadNumber reads a number, and tells the place behind it.
func ReadNumber(s string, at int) (int, int, api.Errno) {
	if at < 0 || at > len(s) {
		return 0, 0, api.ErrRange
	}
	if at == len(s) {
		return 0, 0, api.ErrShort
	}
	k := int(s[at])
	at++
	if k > most {
		return 0, 0, api.ErrForm
	}
	if len(s)-at < k {
		return 0, 0, api.ErrShort
	}
	// The top bit is asked ahead of the sum: a number with it would leave int's range.
	if k > 0 && s[at] == 0 || k == most && s[at] > 0x7f {
		return 0, 0, api.ErrForm
	}
	n := 0
	for i := range k {
		n = n<<8 | int(s[at+i])
	}
	return n, at + k, api.OK
}

// ReadText reads a text, and tells the place behind it.
func ReadText(s string, at int) (string, int, api.Errno) {
	n, at, e := ReadNumber(s, at)
	if e != api.OK {
		return "", 0, e
	}
	if n > api.MaxBytes {
		return "", 0, api.ErrBig
	}
	if len(s)-at < n {
		return "", 0, api.ErrShort
	}
	return join(s[at : at+n]), at + n, api.OK
}

// ReadList reads texts, and tells the place behind them.
func ReadList(s string, at int) ([]string, int, api.Errno) {
	n, at, e := ReadNumber(s, at)
	if e != api.OK {
		return nil, 0, e
	}
	if n > api.MaxList {
		return nil, 0, api.ErrBig
	}
	left := api.MaxBytes
	var l []string
	for range n {
		t, behind, e := ReadText(s, at)
		if e != api.OK {
			return nil, 0, e
		}
		if len(t) > left {
			return nil, 0, api.ErrBig
		}
		left -= len(t)
		at = behind
		l = append(l, t)
	}
	return l, at, api.OK
}
