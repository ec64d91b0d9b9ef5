package runs_test

import (
	"math"
	"math/rand"
	"strings"
	"testing"

	"cavalcade/api"
	"cavalcade/runs"
)

// x is so many bytes.
func x(s string, n int) string { return strings.Repeat(s, n) }

// unlike is so many bytes, of which no two neighbours are the same.
func unlike(n int) string { return x("0123456789", n/10+1)[:n] }

func b(l ...byte) string { return string(l) }

func TestPack(t *testing.T) {
	for _, c := range []struct{ s, want string }{
		{"", ""},
		{"a", b(0) + "a"},
		{"aa", b(1) + "aa"},
		{"aaa", b(128) + "a"},
		{"aaab", b(128, 'a', 0, 'b')},
		{"aab", b(2) + "aab"},
		{"baaa", b(0, 'b', 128, 'a')},
		{"aabbb", b(1, 'a', 'a', 128, 'b')},
		{"aaabbbb", b(128, 'a', 129, 'b')},
		{"aabbaabb", b(7) + "aabbaabb"},
		{x("a", 129), b(254, 'a')},
		{x("a", 130), b(255, 'a')},
		{x("a", 131), b(255, 'a', 0, 'a')},
		{x("a", 132), b(255, 'a', 1, 'a', 'a')},
		{x("a", 133), b(255, 'a', 128, 'a')},
		{x("a", 131) + "bccc", b(255, 'a', 1, 'a', 'b', 128, 'c')},
		{unlike(127), b(126) + unlike(127)},
		{unlike(128), b(127) + unlike(128)},
		{unlike(129), b(127) + unlike(128) + b(0, '8')},
		{unlike(128) + "xxx", b(127) + unlike(128) + b(128, 'x')},
		{unlike(127) + "xxx", b(126) + unlike(127) + b(128, 'x')},
		{unlike(127) + "xx", b(127) + unlike(127) + "x" + b(0, 'x')},
		{x("\x00", 4) + "\xff", b(129, 0, 0, 255)},
	} {
		if got := runs.Pack(c.s); got != c.want {
			t.Errorf("Pack(%q): %v, not %v", c.s, []byte(got), []byte(c.want))
		}
	}
}

func TestUnpack(t *testing.T) {
	for _, c := range []struct {
		s    string
		most int
		want string
	}{
		{"", 0, ""},
		{b(0, 'a'), 1, "a"},
		{b(128, 'a'), 3, "aaa"},
		{b(255, 'a'), 130, x("a", 130)},
		{b(127) + unlike(128), 128, unlike(128)},
		{b(0, 'a', 0, 'a', 0, 'a'), 3, "aaa"},
		{b(128, 'a', 128, 'a', 2, 'x', 'y', 'z'), math.MaxInt, "aaaaaaxyz"},
	} {
		if got, e := runs.Unpack(c.s, c.most); got != c.want || e != api.OK {
			t.Errorf("Unpack(%v, %d): %q, %d", []byte(c.s), c.most, got, e)
		}
	}
}

func TestUnpackErrors(t *testing.T) {
	for _, c := range []struct {
		s    string
		most int
		e    api.Errno
	}{
		{"", -1, api.ErrArg}, {b(0), math.MinInt, api.ErrArg},
		{b(0), 9, api.ErrShort}, {b(1, 'a'), 9, api.ErrShort}, {b(128), 9, api.ErrShort}, {b(255), 999, api.ErrShort}, {b(127) + unlike(127), 999, api.ErrShort},
		{b(128, 'a'), 2, api.ErrBig}, {b(0, 'a'), 0, api.ErrBig}, {b(1, 'a', 'b'), 1, api.ErrBig}, {b(255, 'a'), 129, api.ErrBig},
		{b(128, 'a', 0, 'b'), 3, api.ErrBig},
		{b(128), 2, api.ErrShort}, {b(1, 'a'), 0, api.ErrShort},
		{b(128, 'a', 0), 2, api.ErrBig}, {b(128, 'a', 0), 3, api.ErrShort},
	} {
		if got, e := runs.Unpack(c.s, c.most); got != "" || e != c.e {
			t.Errorf("Unpack(%v, %d): %q, %d, not %d", []byte(c.s), c.most, got, e, c.e)
		}
	}
}

func random(r *rand.Rand) string {
	out := make([]byte, 0, 2000)
	for range r.Intn(30) {
		c := byte(r.Intn(3))
		for range 1 + r.Intn(1+r.Intn(140)) {
			out = append(out, c)
			if r.Intn(40) == 0 {
				c = byte(r.Intn(256))
			}
		}
	}
	return string(out)
}

func TestThereAndBackAndLittle(t *testing.T) {
	r := rand.New(rand.NewSource(6))
	l := []string{"", unlike(128), unlike(129), x("aab", 1000), x("aaab", 1000), x("a", 100000)}
	for range 3000 {
		l = append(l, random(r))
	}
	for _, s := range l {
		p := runs.Pack(s)
		if len(p) > len(s)+(len(s)+127)/128 {
			t.Fatalf("%d bytes are packed as %d", len(s), len(p))
		}
		for _, most := range []int{len(s), len(s) + 1, math.MaxInt} {
			if got, e := runs.Unpack(p, most); got != s || e != api.OK {
				t.Fatalf("%q comes back as %q, %d", s, got, e)
			}
		}
		if len(s) > 0 {
			if got, e := runs.Unpack(p, len(s)-1); got != "" || e != api.ErrBig {
				t.Fatalf("%q with too little room: %d", s, e)
			}
		}
	}
}
