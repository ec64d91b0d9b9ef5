package journal_test

import (
	"math/rand"
	"slices"
	"strconv"
	"strings"
	"testing"

	"cavalcade/api"
	"cavalcade/crate"
	"cavalcade/disk"
	"cavalcade/journal"
	"cavalcade/octets"
)

// lay makes a record's bytes, from the document's words.
func lay(i int, s string) string {
	n, _ := octets.Number(len(s))
	at, _ := octets.Number(i)
	c := crate.Sum(at + s)
	return n + string([]byte{byte(c >> 24), byte(c >> 16), byte(c >> 8), byte(c)}) + s
}

func layAll(l ...string) string {
	out := ""
	for i, s := range l {
		out += lay(i, s)
	}
	return out
}

func read(t *testing.T, d *disk.Disk, name string) string {
	t.Helper()
	s, e := d.Read(name)
	if e != api.OK {
		t.Fatalf("%s: %d", name, e)
	}
	return s
}

// open opens the journal `j`, and asks for its records.
func open(t *testing.T, d *disk.Disk, l ...string) *journal.Journal {
	t.Helper()
	j, got, e := journal.Open(d, "j")
	if e != api.OK || j == nil || !slices.Equal(got, l) {
		t.Fatalf("%q, not %q: %d", got, l, e)
	}
	if j.Len() != len(l) || j.Synced() != len(l) {
		t.Fatalf("%d, %d of %d", j.Len(), j.Synced(), len(l))
	}
	return j
}

func want(t *testing.T, what string, got, e api.Errno) {
	t.Helper()
	if got != e {
		t.Errorf("%s: %d, not %d", what, got, e)
	}
}

func TestParse(t *testing.T) {
	long := strings.Repeat("l", 4096)
	whole := layAll("a", "", long, "b")
	if journal.MaxRecord != 4096 {
		t.Error(journal.MaxRecord)
	}
	for i, c := range []struct {
		s string
		n int
	}{
		{"", 0}, {whole, 4}, {whole + "x", 4}, {whole + "\x01", 4}, {whole + lay(3, "c"), 4}, {whole + lay(0, "c"), 4}, {whole + lay(5, "c"), 4},
		{whole + lay(4, long+"l"), 4}, {whole + "\x00\x00\x00", 4}, {whole + "\x01\x00", 4}, {whole + "\x09", 4}, {whole + "\x01\x00" + lay(4, "")[1:], 4},
		{whole[:len(whole)-1], 3}, {whole[:len(whole)-6], 3}, {whole[1:], 0}, {"x" + whole, 0},
		{layAll("a") + lay(1, "b")[:5] + "c", 1}, {layAll("a", "b") + lay(1, "c") + lay(2, "d"), 2}, {lay(1, "a"), 0}, {lay(0, "a") + lay(2, "b"), 1},
	} {
		l, n := journal.Parse(c.s)
		all := []string{"a", "", long, "b"}
		if i > 15 {
			all = []string{"a", "b"}
		}
		if !slices.Equal(l, all[:c.n]) || n != len(layAll(all[:c.n]...)) {
			t.Errorf("%d: %d records, of %d bytes, not %d", i, len(l), n, c.n)
		}
	}
	// One byte spoilt: the records ahead of it are there, and no other ones.
	for at := range len(whole) {
		if at > 20 && at < len(whole)-20 {
			continue
		}
		b := []byte(whole)
		b[at] ^= 0x10
		l, n := journal.Parse(string(b))
		if n > at || len(l) > 3 || layAll(l...) != whole[:n] {
			t.Errorf("byte %d spoilt: %d records of %d bytes", at, len(l), n)
		}
	}
}

func TestParseTellsItsOwn(t *testing.T) {
	s := layAll("a", "b")
	l, _ := journal.Parse(s)
	_ = append(l, "x")
	l[0] = "y"
	if m, _ := journal.Parse(s); !slices.Equal(m, []string{"a", "b"}) {
		t.Error(m)
	}
}

func TestExample(t *testing.T) {
	d := disk.New()
	j := open(t, d)
	if len(d.Names()) != 0 {
		t.Error("an empty journal has a file")
	}
	want(t, "sync of nothing", j.Sync(), api.OK)
	if len(d.Names()) != 0 {
		t.Error("an empty journal has a file behind Sync")
	}
	want(t, "add", j.Add("a"), api.OK)
	want(t, "add", j.Add("b"), api.OK)
	if j.Len() != 2 || j.Synced() != 0 {
		t.Errorf("%d, %d", j.Len(), j.Synced())
	}
	want(t, "sync", j.Sync(), api.OK)
	if j.Len() != 2 || j.Synced() != 2 {
		t.Errorf("%d, %d", j.Len(), j.Synced())
	}
	want(t, "add", j.Add("c"), api.OK)
	if j.Len() != 3 || j.Synced() != 2 || read(t, d, "j") != layAll("a", "b", "c") {
		t.Errorf("%d, %d, %q", j.Len(), j.Synced(), read(t, d, "j"))
	}
	want(t, "crash", d.Crash([]int{3}), api.OK)
	j = open(t, d, "a", "b")
	if read(t, d, "j") != layAll("a", "b") || !slices.Equal(d.Names(), []string{"j"}) {
		t.Errorf("%q, %q", read(t, d, "j"), d.Names())
	}
	want(t, "add", j.Add("C"), api.OK)
	if read(t, d, "j") != layAll("a", "b", "C") {
		t.Errorf("%q", read(t, d, "j"))
	}
}

func TestOpenErrors(t *testing.T) {
	if j, l, e := journal.Open(nil, ""); j != nil || len(l) != 0 || e != api.ErrNil {
		t.Errorf("nil: %d", e)
	}
	d := disk.New()
	for _, name := range []string{"", strings.Repeat("a", 16), strings.Repeat("a", 17), "A", "a b", "a/", "{", "\x00"} {
		if j, l, e := journal.Open(d, name); j != nil || len(l) != 0 || e != api.ErrArg {
			t.Errorf("%q: %d", name, e)
		}
	}
	for _, name := range []string{strings.Repeat("a", 15), "0.z", "."} {
		if j, l, e := journal.Open(d, name); j == nil || len(l) != 0 || e != api.OK {
			t.Errorf("%q: %d", name, e)
		}
	}
	d.Arm(0)
	if j, _, e := journal.Open(d, "A"); j != nil || e != api.ErrArg {
		t.Errorf("down: %d", e)
	}
	if j, _, e := journal.Open(d, "a"); j != nil || e != api.ErrDown {
		t.Errorf("down: %d", e)
	}
	d = disk.New()
	d.Append("j", "torn")
	for _, name := range []string{"b", "c", "d", "e", "f", "g", "h"} {
		d.Append(name, "")
	}
	if j, l, e := journal.Open(d, "j"); j != nil || len(l) != 0 || e != api.ErrFull {
		t.Errorf("full: %d", e)
	}
}

// What opening does to the disk, operation by operation.
func TestOpenDoes(t *testing.T) {
	for _, c := range []struct {
		file, beside bool
		rest         string
		ops          int
	}{{false, false, "", 0}, {false, true, "", 1}, {true, false, "", 1}, {true, true, "", 2}, {true, false, "r", 3}, {true, true, "r", 4}} {
		for n := range c.ops + 2 {
			d := disk.New()
			if c.file {
				d.Append("j", layAll("a", "b")+c.rest)
			}
			if c.beside {
				d.Append("jx", "left over")
			}
			if c.ops > 0 || n > 0 {
				d.Arm(n)
			}
			j, l, e := journal.Open(d, "j")
			if (e == api.OK) != (n >= c.ops && !(n == 1 && c.ops == 1 && !c.file)) || (j == nil) != (e != api.OK) || e != api.OK && (e != api.ErrDown || len(l) != 0) {
				t.Errorf("%v, armed with %d: %q, %d", c, n, l, e)
			}
			if d.Down() != (n <= c.ops && c.ops+n > 0) {
				t.Errorf("%v, armed with %d: down: %v", c, n, d.Down())
			}
			d.Crash(nil)
			if n >= c.ops && c.file && (read(t, d, "j") != layAll("a", "b") || !slices.Equal(d.Names(), []string{"j"})) {
				t.Errorf("%v: not safe: %q", c, read(t, d, "j"))
			}
		}
	}
}

func TestOpenARestAlone(t *testing.T) {
	d := disk.New()
	d.Append("j", "torn")
	d.Append("jx", "left over")
	open(t, d)
	d.Crash(nil)
	if read(t, d, "j") != "" || !slices.Equal(d.Names(), []string{"j"}) {
		t.Errorf("%q, %q", read(t, d, "j"), d.Names())
	}
	open(t, d)
}

func TestTooBig(t *testing.T) {
	d := disk.New()
	j := open(t, d)
	long := strings.Repeat("l", 4096)
	want(t, "add", j.Add(long+"l"), api.ErrBig)
	want(t, "renew", j.Renew([]string{"a", long + "l"}), api.ErrBig)
	if len(d.Names()) != 0 || j.Len() != 0 {
		t.Error("something was done")
	}
	want(t, "add", j.Add(long), api.OK)
	want(t, "sync", j.Sync(), api.OK)
	open(t, d, long)
	want(t, "renew", j.Renew([]string{"", long}), api.OK)
	open(t, d, "", long)
}

func TestRenew(t *testing.T) {
	d := disk.New()
	j := open(t, d)
	want(t, "renew by nothing", j.Renew(nil), api.OK)
	if read(t, d, "j") != "" || !slices.Equal(d.Names(), []string{"j"}) {
		t.Errorf("%q", d.Names())
	}
	want(t, "sync", j.Sync(), api.OK)
	j.Add("a")
	j.Add("b")
	l := []string{"c", "d", "e", "f"}
	want(t, "renew", j.Renew(l[:3]), api.OK)
	if !slices.Equal(l, []string{"c", "d", "e", "f"}) {
		t.Error(l)
	}
	if j.Len() != 3 || j.Synced() != 3 || read(t, d, "j") != layAll("c", "d", "e") || !slices.Equal(d.Names(), []string{"j"}) {
		t.Errorf("%d, %d, %q", j.Len(), j.Synced(), read(t, d, "j"))
	}
	want(t, "add", j.Add("g"), api.OK)
	if j.Len() != 4 || j.Synced() != 3 {
		t.Errorf("%d, %d", j.Len(), j.Synced())
	}
	d.Crash([]int{99})
	j = open(t, d, "c", "d", "e", "g")
	want(t, "renew by nothing", j.Renew(nil), api.OK)
	d.Crash(nil)
	open(t, d)
}

// With an error of the disk the journal answers ErrDown from then on, whatever becomes of the disk.
func TestBroken(t *testing.T) {
	long := strings.Repeat("l", 4097)
	for i, c := range []struct {
		armed int
		call  func(j *journal.Journal) api.Errno
		first api.Errno
	}{
		{0, func(j *journal.Journal) api.Errno { return j.Add("b") }, api.ErrDown},
		{0, func(j *journal.Journal) api.Errno { return j.Sync() }, api.ErrDown},
		{0, func(j *journal.Journal) api.Errno { return j.Renew(nil) }, api.ErrDown},
		{1, func(j *journal.Journal) api.Errno { return j.Renew(nil) }, api.ErrDown},
		{2, func(j *journal.Journal) api.Errno { return j.Renew(nil) }, api.ErrDown},
		{9, func(j *journal.Journal) api.Errno { return j.Renew(slices.Repeat([]string{long[1:]}, 256)) }, api.ErrBig},
	} {
		d := disk.New()
		j := open(t, d)
		j.Add("a")
		d.Arm(c.armed)
		want(t, "first "+strconv.Itoa(i), c.call(j), c.first)
		if j.Len() != 1 || j.Synced() != 0 {
			t.Errorf("%d: %d, %d", i, j.Len(), j.Synced())
		}
		d.Crash([]int{9, 9})
		want(t, "add", j.Add(long), api.ErrDown)
		want(t, "add", j.Add("b"), api.ErrDown)
		want(t, "sync", j.Sync(), api.ErrDown)
		want(t, "renew", j.Renew([]string{long}), api.ErrDown)
		want(t, "renew", j.Renew(nil), api.ErrDown)
		open(t, d, "a")
	}
	d := disk.New()
	j := open(t, d)
	d.Arm(1)
	want(t, "the last operation", j.Add("a"), api.OK)
	want(t, "one too many", j.Add("b"), api.ErrDown)
}

func TestFullDisk(t *testing.T) {
	d := disk.New()
	j := open(t, d)
	d.Append("j", strings.Repeat("q", 1<<20-2))
	want(t, "add", j.Add("a"), api.ErrBig)
	want(t, "add", j.Add(""), api.ErrDown)
}

func TestNil(t *testing.T) {
	var j *journal.Journal
	want(t, "add", j.Add(strings.Repeat("l", 5000)), api.ErrNil)
	want(t, "sync", j.Sync(), api.ErrNil)
	want(t, "renew", j.Renew([]string{strings.Repeat("l", 5000)}), api.ErrNil)
	if j.Len() != 0 || j.Synced() != 0 {
		t.Error("of nil")
	}
}

// begins tells whether l is a beginning of all, of at least n.
func begins(l, all []string, n int) bool {
	return len(l) <= len(all) && len(l) >= n && slices.Equal(l, all[:len(l)])
}

// Behind a crash at any place, torn in any way, what was synced is there, and opened once more it is the same.
func TestNothingIsLost(t *testing.T) {
	r := rand.New(rand.NewSource(10))
	for round := range 2000 {
		d := disk.New()
		j, _, _ := journal.Open(d, "j")
		var old, now []string
		synced := 0
		renewing := false
		d.Arm(r.Intn(30))
		for i := 0; ; i++ {
			e := api.OK
			switch k := r.Intn(8); {
			case k < 5:
				s := strings.Repeat(strconv.Itoa(i), r.Intn(5))
				if e = j.Add(s); e == api.OK {
					now = append(now, s)
				}
			case k < 7:
				if e = j.Sync(); e == api.OK {
					synced = len(now)
				}
			default:
				old = slices.Clone(now)
				fresh := []string{"n", strconv.Itoa(i), "w"}[:r.Intn(4)]
				if e = j.Renew(fresh); e == api.OK {
					now, synced = slices.Clone(fresh), len(fresh)
				} else {
					renewing, now = true, slices.Clone(fresh)
				}
			}
			if e != api.OK {
				break
			}
		}
		keep := []int{r.Intn(20), r.Intn(20)}
		d.Crash(keep)
		j, l, e := journal.Open(d, "j")
		if e != api.OK {
			t.Fatal(e)
		}
		switch {
		case renewing && !begins(l, old, synced) && !slices.Equal(l, now):
			t.Fatalf("%d: %q: neither %q nor %q", round, l, old, now)
		case !renewing && !begins(l, now, synced):
			t.Fatalf("%d: %q of %q, %d of them synced", round, l, now, synced)
		}
		d.Crash(nil)
		_, again, e := journal.Open(d, "j")
		if e != api.OK || !slices.Equal(l, again) {
			t.Fatalf("%d: %q, and then %q: %d", round, l, again, e)
		}
		j.Add("more")
		j.Sync()
		d.Crash(nil)
		if _, again, _ = journal.Open(d, "j"); !slices.Equal(append(l, "more"), again) {
			t.Fatalf("%d: %q, and then %q", round, l, again)
		}
	}
}
