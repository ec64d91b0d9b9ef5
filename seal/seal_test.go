package seal_test

import (
	"crypto/sha256"
	"math"
	"strings"
	"testing"

	"cavalcade/api"
	"cavalcade/seal"
)

// key and tag say by themselves, from the document's words, what a key and a tag are.
func key(who int) api.Hash {
	if who == 0 {
		return sha256.Sum256([]byte("key\x00"))
	}
	return sha256.Sum256([]byte("key\x01" + string([]byte{byte(who)})))
}

func tag(who, domain int, body string) api.Hash {
	k := key(who)
	return sha256.Sum256([]byte(string(k[:]) + string([]byte{byte(domain)}) + body))
}

func bodies() []string {
	return []string{"", "a", "b", "\x01", "ab", strings.Repeat("body", 100)}
}

func TestKey(t *testing.T) {
	if seal.Sequencer != 64 {
		t.Error(seal.Sequencer)
	}
	for who := range 65 {
		if k, e := seal.Key(who); k != key(who) || e != api.OK {
			t.Errorf("Key(%d): %d", who, e)
		}
	}
	for _, who := range []int{-1, 65, 66, 256, math.MaxInt, math.MinInt} {
		if k, e := seal.Key(who); k != (api.Hash{}) || e != api.ErrWho {
			t.Errorf("Key(%d): %d", who, e)
		}
	}
}

func TestTag(t *testing.T) {
	for who := range 65 {
		for domain := 1; domain <= 4; domain++ {
			for _, b := range bodies() {
				if h, e := seal.Tag(who, domain, b); h != tag(who, domain, b) || e != api.OK {
					t.Errorf("Tag(%d, %d, %q): %d", who, domain, b, e)
				}
				if e := seal.Check(who, domain, b, tag(who, domain, b)); e != api.OK {
					t.Errorf("Check(%d, %d, %q): %d", who, domain, b, e)
				}
			}
		}
	}
}

func TestWrong(t *testing.T) {
	for _, c := range []struct {
		who, domain int
		e           api.Errno
	}{
		{-1, 1, api.ErrWho}, {65, 1, api.ErrWho}, {math.MaxInt, 4, api.ErrWho}, {math.MinInt, 4, api.ErrWho},
		{65, 0, api.ErrWho}, {-1, 5, api.ErrWho},
		{0, 0, api.ErrArg}, {0, 5, api.ErrArg}, {64, -1, api.ErrArg}, {1, 257, api.ErrArg}, {1, math.MaxInt, api.ErrArg}, {1, math.MinInt, api.ErrArg},
	} {
		if h, e := seal.Tag(c.who, c.domain, "a"); h != (api.Hash{}) || e != c.e {
			t.Errorf("Tag(%d, %d): %d", c.who, c.domain, e)
		}
		if e := seal.Check(c.who, c.domain, "a", tag(1, 1, "a")); e != c.e {
			t.Errorf("Check(%d, %d): %d", c.who, c.domain, e)
		}
	}
}

// A tag is for one who, one domain and one body alone.
func TestTheirs(t *testing.T) {
	h, _ := seal.Tag(1, api.DTx, "a")
	for _, c := range []struct {
		who, domain int
		body        string
	}{{1, api.DLane, "a"}, {1, api.DBid, "a"}, {1, api.DBatch, "a"}, {2, api.DTx, "a"}, {0, api.DTx, "a"}, {64, api.DTx, "a"}, {1, api.DTx, ""}, {1, api.DTx, "b"}, {1, api.DTx, "aa"}, {1, api.DTx, "a\x00"}} {
		if e := seal.Check(c.who, c.domain, c.body, h); e != api.ErrTag {
			t.Errorf("checks for %d, %d, %q: %d", c.who, c.domain, c.body, e)
		}
	}
	for bit := range 256 {
		x := h
		x[bit/8] ^= 1 << (bit % 8)
		if e := seal.Check(1, api.DTx, "a", x); e != api.ErrTag {
			t.Errorf("with bit %d turned: %d", bit, e)
		}
	}
	if e := seal.Check(1, api.DTx, "a", api.Hash{}); e != api.ErrTag {
		t.Errorf("the zero tag: %d", e)
	}
}
