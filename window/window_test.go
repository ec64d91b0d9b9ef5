package window_test

import (
	"math"
	"math/rand"
	"strings"
	"testing"

	"cavalcade/api"
	"cavalcade/window"
)

const static = "transfer pay to from lane bid fee nonce round batch delayed 01234567"

func b(l ...byte) string { return string(l) }

// pack is the packer's way without any shortcut.
func pack(s string) string {
	all := static + s
	var out, waits []byte
	end := func() {
		for len(waits) > 0 {
			n := min(128, len(waits))
			out = append(append(out, byte(n-1)), waits[:n]...)
			waits = waits[n:]
		}
	}
	for at := len(static); at < len(all); {
		best, least := 0, 0
		for d := 0; d < 32768 && d < at; d++ {
			n := 0
			for n < 130 && at+n < len(all) && all[at+n] == all[at+n-d-1] {
				n++
			}
			if n > best {
				best, least = n, d
			}
		}
		if best < 4 {
			waits = append(waits, all[at])
			at++
			continue
		}
		end()
		out = append(out, byte(best+124), byte(least>>8), byte(least))
		at += best
	}
	end()
	return string(out)
}

func TestStatic(t *testing.T) {
	if window.Static != static || len(static) != 68 {
		t.Error(window.Static)
	}
}

func TestPackByHand(t *testing.T) {
	for _, c := range []struct{ s, want string }{
		{"", ""},
		{"lane", b(128, 0, 46)},
		{"lan", b(2) + "lan"},
		{"x", b(0, 'x')},
		{"transfer", b(132, 0, 67)},
		{"4567", b(128, 0, 3)},
		{"7777", b(128, 0, 0)},
		{"qqqq", b(3) + "qqqq"},
		{"qqqqq", b(0, 'q', 128, 0, 0)},
		{"xxxxxxxxxx", b(0, 'x', 133, 0, 0)},
		{strings.Repeat("x", 131), b(0, 'x', 254, 0, 0)},
		{strings.Repeat("x", 132), b(0, 'x', 254, 0, 0, 0, 'x')},
		{"abXYZWcdXYZWQefXYZW", b(7) + "abXYZWcd" + b(128, 0, 5) + b(2) + "Qef" + b(128, 0, 6)},
	} {
		if got := window.Pack(c.s); got != c.want {
			t.Errorf("Pack(%q): %v, not %v", c.s, []byte(got), []byte(c.want))
		}
	}
}

func random(r *rand.Rand, kinds, n int) string {
	out := make([]byte, 0, n)
	for len(out) < n {
		switch from := 0; r.Intn(4) {
		case 0:
			from = r.Intn(len(static))
			out = append(out, static[from:from+r.Intn(len(static)-from)]...)
		case 1:
			if len(out) > 0 {
				from = r.Intn(len(out))
				out = append(out, out[from:from+r.Intn(len(out)-from)]...)
			}
		default:
			out = append(out, byte(r.Intn(kinds)))
		}
	}
	return string(out[:n])
}

func TestPackLikeTheWay(t *testing.T) {
	r := rand.New(rand.NewSource(7))
	for i := range 400 {
		s := random(r, 1+i%200, r.Intn(600))
		if got, want := window.Pack(s), pack(s); got != want {
			t.Fatalf("Pack(%q): %v, not %v", s, []byte(got), []byte(want))
		}
	}
}

// A match begins at most 32768 bytes ahead.
func TestFarBack(t *testing.T) {
	r := rand.New(rand.NewSource(8))
	far := make([]byte, 32768)
	for i := range far {
		far[i] = byte(128 + r.Intn(128))
	}
	copy(far, "MARK")
	for n, want := range map[int]string{32767: b(128, 127, 254), 32768: b(128, 127, 255), 32769: "!MARK"} {
		s := (string(far) + "!")[:n] + "MARK"
		if got := window.Pack(s); !strings.HasSuffix(got, want) {
			t.Errorf("%d ahead: %v", n, []byte(got[len(got)-6:]))
		}
		if got, e := window.Unpack(window.Pack(s), len(s)); got != s || e != api.OK {
			t.Errorf("%d ahead: comes back as another: %d", n, e)
		}
	}
}

func TestUnpack(t *testing.T) {
	for _, c := range []struct {
		s    string
		most int
		want string
	}{
		{"", 0, ""},
		{b(0, 'a'), 1, "a"},
		{b(128, 0, 46), 4, "lane"},
		{b(128, 0, 67), 4, "tran"},
		{b(254, 0, 0), 130, strings.Repeat("7", 130)},
		{b(0, 'a', 0, 'b', 130, 0, 1), 8, "abababab"},
		{b(0, 'a', 128, 0, 68), 5, "atran"},
		{b(128, 0, 0, 128, 0, 1), math.MaxInt, "77777777"},
	} {
		if got, e := window.Unpack(c.s, c.most); got != c.want || e != api.OK {
			t.Errorf("Unpack(%v, %d): %q, %d", []byte(c.s), c.most, got, e)
		}
	}
}

func TestUnpackErrors(t *testing.T) {
	for _, c := range []struct {
		s    string
		most int
		e    api.Errno
	}{
		{"", -1, api.ErrArg}, {b(255), -1, api.ErrArg}, {"", math.MinInt, api.ErrArg},
		{b(255), 0, api.ErrForm}, {b(255, 0, 0), 9, api.ErrForm}, {b(0, 'a', 255), 9, api.ErrForm},
		{b(0), 9, api.ErrShort}, {b(1, 'a'), 0, api.ErrShort}, {b(128), 9, api.ErrShort}, {b(128, 0), 9, api.ErrShort}, {b(254, 255), 0, api.ErrShort},
		{b(0, 'a', 1, 'b'), 9, api.ErrShort}, {b(0, 'a', 128, 0), 9, api.ErrShort}, {b(0, 'a', 0), 9, api.ErrShort},
		{b(128, 128, 0), 9, api.ErrForm}, {b(128, 255, 255), 0, api.ErrForm}, {b(128, 127, 255), 9, api.ErrForm}, {b(128, 0, 68), 9, api.ErrForm}, {b(128, 0, 68), 0, api.ErrForm},
		{b(0, 'a', 128, 0, 69), 9, api.ErrForm},
		{b(128, 0, 0), 3, api.ErrBig}, {b(0, 'a'), 0, api.ErrBig}, {b(1, 'a', 'b'), 1, api.ErrBig}, {b(254, 0, 0), 129, api.ErrBig}, {b(0, 'a', 128, 0, 0), 4, api.ErrBig},
		{b(0, 'a', 0, 'b', 255), 1, api.ErrBig},
	} {
		if got, e := window.Unpack(c.s, c.most); got != "" || e != c.e {
			t.Errorf("Unpack(%v, %d): %q, %d, not %d", []byte(c.s), c.most, got, e, c.e)
		}
	}
	// So far ahead there is nothing but beyond 32768 bytes, which no match reaches.
	long := strings.Repeat(b(127)+strings.Repeat("z", 128), 300)
	if _, e := window.Unpack(long+b(128, 128, 0), math.MaxInt); e != api.ErrForm {
		t.Errorf("32769 ahead: %d", e)
	}
	if _, e := window.Unpack(long+b(128, 127, 255), math.MaxInt); e != api.OK {
		t.Errorf("32768 ahead: %d", e)
	}
}

func TestThereAndBackAndLittle(t *testing.T) {
	r := rand.New(rand.NewSource(9))
	l := []string{"", static, static + static, strings.Repeat("x", 100000), strings.Repeat("ab", 30000)}
	for i := range 300 {
		l = append(l, random(r, 1+i, r.Intn(3000)))
	}
	noise := make([]byte, 20000)
	for i := range noise {
		noise[i] = byte(r.Intn(256))
	}
	for _, s := range append(l, string(noise)) {
		p := window.Pack(s)
		if len(p) > len(s)+(len(s)+127)/128 {
			t.Fatalf("%d bytes are packed as %d", len(s), len(p))
		}
		if got, e := window.Unpack(p, len(s)); got != s || e != api.OK {
			t.Fatalf("%d bytes come back as %d, %d", len(s), len(got), e)
		}
		if len(s) > 0 {
			if got, e := window.Unpack(p, len(s)-1); got != "" || e != api.ErrBig {
				t.Fatalf("with too little room: %d", e)
			}
		}
		if n := len(s); n <= 16000 {
			if twice := window.Pack(s + s); len(twice) > len(p)+3*((n+129)/130)+133 {
				t.Fatalf("%d bytes, packed as %d, are packed as %d, twice", n, len(p), len(twice))
			}
		}
	}
}
