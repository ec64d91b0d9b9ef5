package digest_test

import (
	"crypto/sha256"
	"math"
	"math/bits"
	"slices"
	"strconv"
	"strings"
	"testing"

	"cavalcade/api"
	"cavalcade/digest"
)

func TestSum(t *testing.T) {
	abc := api.Hash{0xba, 0x78, 0x16, 0xbf, 0x8f, 0x01, 0xcf, 0xea, 0x41, 0x41, 0x40, 0xde, 0x5d, 0xae, 0x22, 0x23,
		0xb0, 0x03, 0x61, 0xa3, 0x96, 0x17, 0x7a, 0x9c, 0xb4, 0x10, 0xff, 0x61, 0xf2, 0x00, 0x15, 0xad}
	if digest.Sum("abc") != abc {
		t.Error("abc")
	}
	b := make([]byte, 300)
	for i := range b {
		b[i] = byte(i * 7)
	}
	for n := range b {
		if digest.Sum(string(b[:n])) != sha256.Sum256(b[:n]) {
			t.Errorf("of %d bytes", n)
		}
	}
	long := strings.Repeat("long", 40000)
	if digest.Sum(long) != sha256.Sum256([]byte(long)) {
		t.Error("of many bytes")
	}
}

func TestChain(t *testing.T) {
	var h api.Hash
	for _, s := range []string{"", "a", strings.Repeat("b", 64), "a"} {
		want := sha256.Sum256(append(slices.Clone(h[:]), s...))
		if h = digest.Chain(h, s); h != want {
			t.Errorf("behind %q", s)
		}
	}
}

// root says by itself, from the document's words, what a list's root is.
func root(l []string) api.Hash {
	if len(l) == 0 {
		return sha256.Sum256(nil)
	}
	if len(l) == 1 {
		return sha256.Sum256([]byte("\x00" + l[0]))
	}
	k := 1
	for 2*k < len(l) {
		k *= 2
	}
	x, y := root(l[:k]), root(l[k:])
	return sha256.Sum256(slices.Concat([]byte{1}, x[:], y[:]))
}

func texts(n int) []string {
	l := make([]string, n)
	for i := range l {
		l[i] = strings.Repeat("t", i%5) + strconv.Itoa(i)
	}
	return l
}

func TestRoot(t *testing.T) {
	for n := range 70 {
		if digest.Root(texts(n)) != root(texts(n)) {
			t.Errorf("of %d texts", n)
		}
	}
}

func TestProof(t *testing.T) {
	l := texts(5)
	p, e := digest.Proof(l, 2)
	want := []api.Hash{root(l[3:4]), root(l[:2]), root(l[4:])}
	if e != api.OK || !slices.Equal(p, want) {
		t.Error("the proof of 2 in 5")
	}
	p, e = digest.Proof(l, 4)
	if e != api.OK || !slices.Equal(p, []api.Hash{root(l[:4])}) {
		t.Error("the proof of 4 in 5")
	}
	if p, e := digest.Proof([]string{"x"}, 0); len(p) != 0 || e != api.OK {
		t.Error("the proof in a list of one")
	}
	for _, c := range [][2]int{{0, 0}, {0, -1}, {1, 1}, {5, 5}, {5, -1}, {5, math.MaxInt}, {5, math.MinInt}} {
		if p, e := digest.Proof(texts(c[0]), c[1]); len(p) != 0 || e != api.ErrRange {
			t.Errorf("the proof of %d in %d: %d", c[1], c[0], e)
		}
	}
}

func TestProofsProve(t *testing.T) {
	for n := 1; n < 40; n++ {
		l := texts(n)
		r := digest.Root(l)
		for i, s := range l {
			p, e := digest.Proof(l, i)
			if e != api.OK || !digest.Proves(r, n, i, s, p) {
				t.Errorf("%d of %d", i, n)
			}
		}
	}
}

func TestProvesNothingElse(t *testing.T) {
	l := texts(11)
	r := digest.Root(l)
	for i, s := range l {
		p, _ := digest.Proof(l, i)
		for _, c := range []struct {
			n, i int
			s    string
			p    []api.Hash
		}{
			{11, i, s + "x", p},
			{11, i, s, append(slices.Clone(p), api.Hash{})},
			{11, i, s, p[:len(p)-1]},
			{11, i, s, nil},
			{11, -1, s, p},
			{11, 11, s, p},
			{0, 0, s, p},
			{-1, i, s, p},
			{math.MinInt, i, s, p},
			{i, i, s, p},
			{11, (i + 1) % 11, s, p},
			{math.MaxInt, math.MaxInt - 1, s, p},
		} {
			if digest.Proves(r, c.n, c.i, c.s, c.p) {
				t.Errorf("%d: proved as %d of %d, %q", i, c.i, c.n, c.s)
			}
		}
		for at := range p {
			for _, bit := range []byte{1, 0x80} {
				q := slices.Clone(p)
				q[at][at] ^= bit
				if digest.Proves(r, 11, i, s, q) {
					t.Errorf("%d: proved with another hash %d", i, at)
				}
			}
		}
		for bit := range 256 {
			q := r
			q[bit/8] ^= 1 << (bit % 8)
			if digest.Proves(q, 11, i, s, p) {
				t.Errorf("%d: proved with another root", i)
			}
		}
	}
}

// The proof of a text that stands in an enormous list is as long as the halves are deep.
func TestProvesInGreatLists(t *testing.T) {
	s := "s"
	now := digest.Sum("\x00" + s)
	var p []api.Hash
	for range bits.Len(uint(math.MaxInt - 1)) {
		h := digest.Sum("other")
		now = digest.Sum("\x01" + string(now[:]) + string(h[:]))
		p = append(p, h)
	}
	if !digest.Proves(now, math.MaxInt, 0, s, p) {
		t.Error("the first of very many")
	}
	if digest.Proves(now, math.MaxInt, 1, s, p) || digest.Proves(now, math.MaxInt, 0, s, p[1:]) {
		t.Error("not the first, or too short a proof")
	}
	if !digest.Proves(digest.Sum("\x00s"), 1, 0, s, nil) {
		t.Error("the only one")
	}
}

func TestListsStayAsTheyAre(t *testing.T) {
	l := texts(9)
	digest.Root(l[:6])
	p, _ := digest.Proof(l[:6], 3)
	q := slices.Clone(p)
	digest.Proves(digest.Root(l[:6]), 6, 3, l[3], p)
	if !slices.Equal(l, texts(9)) || !slices.Equal(p, q) {
		t.Error("changed")
	}
}
