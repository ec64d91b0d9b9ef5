package octets_test

import (
	"math"
	"math/rand"
	"slices"
	"strings"
	"testing"

	"cavalcade/api"
	"cavalcade/octets"
)

// numbers: those at which the count of bytes changes, and the greatest ones.
func numbers() []int {
	l := []int{0, 1, 2, 127, 128, math.MaxInt, math.MaxInt - 1}
	for k := 8; k < 63; k += 8 {
		l = append(l, 1<<k-1, 1<<k, 1<<k+1)
	}
	return l
}

// laid says by itself, from the document's words, what a number's bytes are.
func laid(n int) string {
	var b []byte
	for m := n; m > 0; m /= 256 {
		b = append([]byte{byte(m % 256)}, b...)
	}
	return string(append([]byte{byte(len(b))}, b...))
}

func TestNumber(t *testing.T) {
	for _, n := range numbers() {
		if s, e := octets.Number(n); s != laid(n) || e != api.OK {
			t.Errorf("Number(%d): %v, %d", n, []byte(s), e)
		}
	}
	if s, e := octets.Number(300); s != "\x02\x01\x2c" || e != api.OK {
		t.Errorf("Number(300): %v, %d", []byte(s), e)
	}
	for _, n := range []int{-1, -300, math.MinInt} {
		if s, e := octets.Number(n); s != "" || e != api.ErrArg {
			t.Errorf("Number(%d): %q, %d", n, s, e)
		}
	}
}

func TestText(t *testing.T) {
	for _, n := range []int{0, 1, 2, 255, 256, 65535, 65536} {
		x := strings.Repeat("q", n)
		if s, e := octets.Text(x); s != laid(n)+x || e != api.OK {
			t.Errorf("Text of %d bytes: %d bytes, %d", n, len(s), e)
		}
	}
	if s, e := octets.Text(strings.Repeat("q", 65537)); s != "" || e != api.ErrBig {
		t.Errorf("Text of too many: %d bytes, %d", len(s), e)
	}
}

func TestList(t *testing.T) {
	if s, e := octets.List(); s != "\x00" || e != api.OK {
		t.Errorf("List(): %q, %d", s, e)
	}
	if s, e := octets.List("ab", "", "c"); s != "\x01\x03\x01\x02ab\x00\x01\x01c" || e != api.OK {
		t.Errorf("List: %q, %d", s, e)
	}
	half := strings.Repeat("h", 32768)
	good := [][]string{make([]string, 1024), {half, half}, {half, "", half}, {half + half}}
	for i, l := range good {
		if s, e := octets.List(l...); e != api.OK || len(s) == 0 {
			t.Errorf("list %d: %d", i, e)
		}
	}
	bad := [][]string{make([]string, 1025), {half, half, "x"}, {half + half + "x"}, {"x", half + half}}
	for i, l := range bad {
		if s, e := octets.List(l...); e != api.ErrBig || s != "" {
			t.Errorf("too big a list %d: %d bytes, %d", i, len(s), e)
		}
	}
}

func TestListLeavesWhatIsHandedIn(t *testing.T) {
	l := []string{"a", "b", "c"}
	octets.List(l[:2]...)
	if !slices.Equal(l, []string{"a", "b", "c"}) {
		t.Error(l)
	}
}

func TestReadNumberErrors(t *testing.T) {
	for _, c := range []struct {
		s  string
		at int
		e  api.Errno
	}{
		{"", -1, api.ErrRange},
		{"\x00", 2, api.ErrRange},
		{"\x00", math.MinInt, api.ErrRange},
		{"\x00", math.MaxInt, api.ErrRange},
		{"", 0, api.ErrShort},
		{"\x00", 1, api.ErrShort},
		{"\x01", 0, api.ErrShort},
		{"\x02\x00", 0, api.ErrShort},
		{"\x08\xff\xff\xff\xff\xff\xff\xff", 0, api.ErrShort},
		{"\x09", 0, api.ErrForm},
		{"\xff", 0, api.ErrForm},
		{"\x09\x01\x01\x01\x01\x01\x01\x01\x01\x01", 0, api.ErrForm},
		{"\x01\x00", 0, api.ErrForm},
		{"\x02\x00\x01", 0, api.ErrForm},
		{"\x08\x00\x01\x01\x01\x01\x01\x01\x01", 0, api.ErrForm},
		{"\x08\x80\x00\x00\x00\x00\x00\x00\x00", 0, api.ErrForm},
		{"\x08\xff\xff\xff\xff\xff\xff\xff\xff", 0, api.ErrForm},
	} {
		if n, at, e := octets.ReadNumber(c.s, c.at); n != 0 || at != 0 || e != c.e {
			t.Errorf("ReadNumber(%q, %d): %d, %d, %d", c.s, c.at, n, at, e)
		}
	}
}

func TestReadTextErrors(t *testing.T) {
	big := laid(65537)
	for _, c := range []struct {
		s  string
		at int
		e  api.Errno
	}{
		{"", -1, api.ErrRange},
		{"", 1, api.ErrRange},
		{"", 0, api.ErrShort},
		{"\x09", 0, api.ErrForm},
		{"\x01\x00", 0, api.ErrForm},
		{big, 0, api.ErrBig},
		{laid(math.MaxInt), 0, api.ErrBig},
		{big + strings.Repeat("x", 65537), 0, api.ErrBig},
		{laid(65536), 0, api.ErrShort},
		{"\x01\x02a", 0, api.ErrShort},
		{"xx\x01\x02a", 2, api.ErrShort},
	} {
		if x, at, e := octets.ReadText(c.s, c.at); x != "" || at != 0 || e != c.e {
			t.Errorf("ReadText(%q, %d): %q, %d, %d", c.s[:min(len(c.s), 9)], c.at, x, at, e)
		}
	}
}

func TestReadListErrors(t *testing.T) {
	half := strings.Repeat("h", 32768)
	for _, c := range []struct {
		s  string
		at int
		e  api.Errno
	}{
		{"", -1, api.ErrRange},
		{"", 1, api.ErrRange},
		{"", 0, api.ErrShort},
		{"\x01\x00", 0, api.ErrForm},
		{laid(1025) + strings.Repeat("\x00", 1025), 0, api.ErrBig},
		{laid(1025), 0, api.ErrBig},
		{laid(1024), 0, api.ErrShort},
		{laid(2) + "\x00\x09", 0, api.ErrForm},
		{laid(2) + "\x00", 0, api.ErrShort},
		{laid(1) + laid(65537), 0, api.ErrBig},
		{laid(3) + laid(32768) + half + laid(32768) + half + laid(1) + "x", 0, api.ErrBig},
		{laid(3) + laid(32768) + half + laid(32768) + half + laid(1), 0, api.ErrShort},
		{laid(4) + laid(32768) + half + laid(32768) + half + laid(1) + "x\x09", 0, api.ErrBig},
	} {
		if l, at, e := octets.ReadList(c.s, c.at); len(l) != 0 || at != 0 || e != c.e {
			t.Errorf("ReadList(%q, %d): %d texts, %d, %d", c.s[:min(len(c.s), 9)], c.at, len(l), at, e)
		}
	}
}

// What is laid is read as itself, wherever it stands, and whatever stands behind it.
func TestThereAndBack(t *testing.T) {
	for _, ahead := range []string{"", "\x09", "abc"} {
		for _, behind := range []string{"", "\x00", "\xff\xff", "more"} {
			for _, n := range numbers() {
				s, _ := octets.Number(n)
				if m, at, e := octets.ReadNumber(ahead+s+behind, len(ahead)); m != n || at != len(ahead+s) || e != api.OK {
					t.Errorf("number %d: %d, %d, %d", n, m, at, e)
				}
			}
			for _, n := range []int{0, 1, 255, 256, 65536} {
				x := strings.Repeat("z", n)
				s, _ := octets.Text(x)
				if y, at, e := octets.ReadText(ahead+s+behind, len(ahead)); y != x || at != len(ahead+s) || e != api.OK {
					t.Errorf("text of %d: %d, %d, %d", n, len(y), at, e)
				}
			}
			for _, l := range [][]string{nil, {""}, {"a", "", "bc"}, make([]string, 1024), {strings.Repeat("l", 65536), ""}} {
				s, _ := octets.List(l...)
				if m, at, e := octets.ReadList(ahead+s+behind, len(ahead)); !slices.Equal(l, m) || at != len(ahead+s) || e != api.OK {
					t.Errorf("list of %d: %d, %d, %d", len(l), len(m), at, e)
				}
			}
		}
	}
}

// What is read, of any bytes, is laid as the bytes that were read.
func TestOneWay(t *testing.T) {
	r := rand.New(rand.NewSource(1))
	read := 0
	for range 200000 {
		b := make([]byte, r.Intn(14))
		for i := range b {
			b[i] = byte(r.Intn(5))
		}
		s := string(b)
		if n, at, e := octets.ReadNumber(s, 0); e == api.OK {
			if x, _ := octets.Number(n); x != s[:at] {
				t.Fatalf("number of %q: %q", s, x)
			}
		}
		if x, at, e := octets.ReadText(s, 0); e == api.OK {
			if y, _ := octets.Text(x); y != s[:at] {
				t.Fatalf("text of %q: %q", s, y)
			}
		}
		if l, at, e := octets.ReadList(s, 0); e == api.OK {
			read++
			if y, _ := octets.List(l...); y != s[:at] {
				t.Fatalf("list of %q: %q", s, y)
			}
		}
	}
	if read < 1000 {
		t.Errorf("only %d lists were read", read)
	}
}
