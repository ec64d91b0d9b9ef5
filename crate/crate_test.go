package crate_test

import (
	"hash/crc32"
	"math"
	"math/rand"
	"strings"
	"testing"

	"cavalcade/api"
	"cavalcade/crate"
	"cavalcade/octets"
	"cavalcade/runs"
	"cavalcade/window"
)

func TestSum(t *testing.T) {
	if crate.Sum("123456789") != 0xcbf43926 || crate.Sum("") != 0 {
		t.Errorf("%x, %x", crate.Sum("123456789"), crate.Sum(""))
	}
	r := rand.New(rand.NewSource(8))
	for n := range 300 {
		b := make([]byte, n)
		r.Read(b)
		if crate.Sum(string(b)) != crc32.ChecksumIEEE(b) {
			t.Errorf("of %v", b)
		}
	}
}

// lay makes a crate of packed bytes, whatever they are.
func lay(way byte, n int, sum uint32, packed string) string {
	l, _ := octets.Number(n)
	return string([]byte{way}) + l + string([]byte{byte(sum >> 24), byte(sum >> 16), byte(sum >> 8), byte(sum)}) + packed
}

func sum(s string) uint32 { return crc32.ChecksumIEEE([]byte(s)) }

// packed is s by each way, in order.
func packed(s string) []string {
	return []string{s, runs.Pack(s), window.Pack(s), window.Pack(runs.Pack(s))}
}

func texts() []string {
	r := rand.New(rand.NewSource(80))
	noise := make([]byte, 32768)
	for i := range noise {
		noise[i] = byte(r.Intn(256))
	}
	mixed := ""
	for i := range 40 {
		mixed += strings.Repeat(string(noise[i:i+1]), 20) + "transfer" + string(noise[i:i+3])
	}
	return []string{"", "a", "aaa", "aaaa", "aaaaaaaa", "lane", "transfer pay", strings.Repeat("a", 32768), string(noise), string(noise[:300]), mixed,
		strings.Repeat("abc", 1000), strings.Repeat(strings.Repeat("x", 140)+"yz", 50), "aaabbbcccaaabbbccc", strings.Repeat("a", 5) + "transfer"}
}

func TestPack(t *testing.T) {
	met := map[int]int{}
	for _, s := range texts() {
		l := packed(s)
		best := 0
		for way := range l {
			if len(l[way]) < len(l[best]) {
				best = way
			}
		}
		met[best]++
		got, e := crate.Pack(s)
		if want := lay(byte(best), len(s), sum(s), l[best]); got != want || e != api.OK {
			t.Errorf("%d bytes: by the way %d, not %d: %d", len(s), got[0], best, e)
		}
		if len(got) > len(s)+9 {
			t.Errorf("%d bytes have a crate of %d", len(s), len(got))
		}
	}
	for way := range 4 {
		if met[way] == 0 {
			t.Errorf("no text goes by the way %d", way)
		}
	}
	if got, e := crate.Pack(""); got != "\x00\x00\x00\x00\x00\x00" || e != api.OK {
		t.Errorf("%q, %d", got, e)
	}
	if got, e := crate.Pack(strings.Repeat("a", 32769)); got != "" || e != api.ErrBig {
		t.Errorf("too many: %d", e)
	}
}

func TestOpenByEachWay(t *testing.T) {
	for _, s := range texts() {
		for way, p := range packed(s) {
			c := lay(byte(way), len(s), sum(s), p)
			for _, most := range []int{len(s), len(s) + 1, 32768, math.MaxInt} {
				if got, e := crate.Open(c, most); got != s || e != api.OK {
					t.Errorf("%d bytes by the way %d, most %d: %d", len(s), way, most, e)
				}
			}
			if len(s) == 0 {
				continue
			}
			if got, e := crate.Open(c, len(s)-1); got != "" || e != api.ErrBig {
				t.Errorf("%d bytes by the way %d, too little room: %d", len(s), way, e)
			}
		}
		c, _ := crate.Pack(s)
		if got, e := crate.Open(c, len(s)); got != s || e != api.OK {
			t.Errorf("%d bytes: %d", len(s), e)
		}
	}
}

func TestOpenErrors(t *testing.T) {
	z := "\x00\x00\x00\x00"
	ones := strings.Repeat("\x00a", 16535)
	for i, c := range []struct {
		s    string
		most int
		e    api.Errno
	}{
		{"", -1, api.ErrArg}, {"\x00\x00" + z, -1, api.ErrArg}, {"", math.MinInt, api.ErrArg},
		{"", 0, api.ErrShort}, {"", 99, api.ErrShort},
		{"\x04", 9, api.ErrForm}, {"\xff\x00" + z, 9, api.ErrForm},
		{"\x00", 9, api.ErrShort}, {"\x03\x01", 9, api.ErrShort}, {"\x00\x09", 9, api.ErrForm}, {"\x00\x01\x00", 9, api.ErrForm},
		{"\x00\x01\x05", 4, api.ErrBig}, {"\x00\x02\x80\x01", math.MaxInt, api.ErrBig}, {lay(0, math.MaxInt, 0, ""), math.MaxInt, api.ErrBig},
		{"\x00\x01\x05\x00\x00\x00", 5, api.ErrShort}, {"\x00\x00", 5, api.ErrShort},
		{lay(1, 3, 0, "\x05a"), 9, api.ErrShort}, {lay(1, 3, sum("aaa"), "\x81a"), 9, api.ErrBig},
		{lay(2, 3, 0, "\xff"), 9, api.ErrForm}, {lay(2, 3, 0, "\x05a"), 9, api.ErrShort}, {lay(2, 3, 0, "\x80\x00\x00"), 9, api.ErrBig},
		{lay(3, 3, 0, "\xff"), 9, api.ErrForm}, {lay(3, 3, 0, "\x00\x05"), 9, api.ErrShort}, {lay(3, 3, 0, "\x01\x81a"), 9, api.ErrBig},
		{lay(3, 16534, 0, window.Pack(ones[2:])), 16534, api.ErrSum}, {lay(3, 16535, 0, window.Pack(ones)), 16535, api.ErrBig},
		{lay(3, 16535, 0, window.Pack(ones[4:]+"\x01ab")), 16535, api.ErrBig},
		{lay(3, 16533, 0, window.Pack(ones[2:])), 16534, api.ErrBig}, {lay(3, 16535, 0, window.Pack(ones[2:])), 16535, api.ErrForm},
		{lay(0, 3, sum("aa"), "aa"), 9, api.ErrForm}, {lay(0, 3, sum("aaaa"), "aaaa"), 9, api.ErrForm}, {lay(1, 4, sum("aaa"), "\x80a"), 9, api.ErrForm},
		{lay(2, 5, sum("lane"), "\x80\x00\x2e"), 9, api.ErrForm}, {lay(3, 4, sum("aaa"), "\x01\x80a"), 9, api.ErrForm},
		{lay(0, 3, sum("aab"), "aaa"), 9, api.ErrSum}, {lay(1, 3, sum("aab"), "\x80a"), 9, api.ErrSum}, {lay(2, 4, 0, "\x80\x00\x2e"), 9, api.ErrSum}, {lay(3, 3, 1, "\x01\x80a"), 9, api.ErrSum},
		{lay(0, 0, 1, ""), 0, api.ErrSum}, {lay(0, 2, 0, "a"), 9, api.ErrForm},
	} {
		if got, e := crate.Open(c.s, c.most); got != "" || e != c.e {
			t.Errorf("%d: %q, %d, not %d", i, got, e, c.e)
		}
	}
}

// The text that a crate by both ways has in between may be longer than what it holds.
func TestOpenInBetween(t *testing.T) {
	s := texts()[8]
	inner := runs.Pack(s)
	if len(inner) <= 32768 {
		t.Fatal("runs make it shorter")
	}
	if got, e := crate.Open(lay(3, len(s), sum(s), window.Pack(inner)), len(s)); got != s || e != api.OK {
		t.Errorf("%d", e)
	}
}

func TestSpoilt(t *testing.T) {
	for _, s := range []string{"", "a", "some bytes", texts()[9]} {
		c := lay(0, len(s), sum(s), s)
		for bit := 8; bit < 8*len(c); bit++ {
			b := []byte(c)
			b[bit/8] ^= 1 << (bit % 8)
			if got, e := crate.Open(string(b), 32768); got != "" || e == api.OK {
				t.Errorf("%d bytes, bit %d turned: %q", len(s), bit, got)
			}
		}
	}
}
