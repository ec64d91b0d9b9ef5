package disk_test

import (
	"math"
	"math/rand"
	"slices"
	"strings"
	"testing"

	"cavalcade/api"
	"cavalcade/disk"
)

// want asks for an error's number.
func want(t *testing.T, what string, got, e api.Errno) {
	t.Helper()
	if got != e {
		t.Errorf("%s: %d, not %d", what, got, e)
	}
}

// holds asks for a file's bytes, and how many of them are safe.
func holds(t *testing.T, d *disk.Disk, name, s string, safe int) {
	t.Helper()
	if got, e := d.Read(name); got != s || e != api.OK {
		t.Errorf("%s: %d bytes, not %d: %d", name, len(got), len(s), e)
	}
	if n, e := d.Safe(name); n != safe || e != api.OK {
		t.Errorf("%s: %d are safe, not %d: %d", name, n, safe, e)
	}
}

func lacks(t *testing.T, d *disk.Disk, name string) {
	t.Helper()
	if s, e := d.Read(name); s != "" || e != api.ErrNone {
		t.Errorf("%s: %q, %d", name, s, e)
	}
	if n, e := d.Safe(name); n != 0 || e != api.ErrNone {
		t.Errorf("%s: %d, %d", name, n, e)
	}
}

func TestExample(t *testing.T) {
	d := disk.New()
	want(t, "append", d.Append("a", "xy"), api.OK)
	holds(t, d, "a", "xy", 0)
	want(t, "sync", d.Sync("a"), api.OK)
	holds(t, d, "a", "xy", 2)
	want(t, "append", d.Append("a", "zw"), api.OK)
	holds(t, d, "a", "xyzw", 2)
	want(t, "crash", d.Crash([]int{1}), api.OK)
	holds(t, d, "a", "xyz", 3)
	want(t, "append behind", d.Append("a", "!"), api.OK)
	holds(t, d, "a", "xyz!", 3)
}

func TestNames(t *testing.T) {
	d := disk.New()
	for _, name := range []string{"", strings.Repeat("a", 17), "A", "a b", "a/b", "a-", "é", "a\x00", "_", "`", "{", "/", ":"} {
		want(t, "append to "+name, d.Append(name, "x"), api.ErrArg)
	}
	if len(d.Names()) != 0 {
		t.Error(d.Names())
	}
	for _, name := range []string{"z", "a", "0", "9", ".", strings.Repeat("a", 16), "az09.x"} {
		want(t, "append to "+name, d.Append(name, ""), api.OK)
		holds(t, d, name, "", 0)
	}
	if l := d.Names(); !slices.Equal(l, []string{".", "0", "9", "a", strings.Repeat("a", 16), "az09.x", "z"}) {
		t.Error(l)
	}
}

func TestFull(t *testing.T) {
	d := disk.New()
	big := strings.Repeat("b", 1<<20)
	want(t, "too big", d.Append("a", big+"x"), api.ErrBig)
	want(t, "bad name, too big", d.Append("A", big+"x"), api.ErrArg)
	lacks(t, d, "a")
	want(t, "as big as can be", d.Append("a", big), api.OK)
	want(t, "one more", d.Append("a", "x"), api.ErrBig)
	want(t, "nothing more", d.Append("a", ""), api.OK)
	holds(t, d, "a", big, 0)
	for _, name := range []string{"b", "c", "d", "e", "f", "g", "h"} {
		want(t, name, d.Append(name, name), api.OK)
	}
	want(t, "a ninth", d.Append("i", "x"), api.ErrFull)
	want(t, "a ninth, too big", d.Append("i", big+"x"), api.ErrBig)
	want(t, "an eighth", d.Append("h", "x"), api.OK)
	holds(t, d, "h", "hx", 0)
	want(t, "rename", d.Rename("h", "i"), api.OK)
	want(t, "remove", d.Remove("b"), api.OK)
	want(t, "an eighth again", d.Append("h", "new"), api.OK)
	want(t, "a ninth again", d.Append("b", "new"), api.ErrFull)
	holds(t, d, "h", "new", 0)
}

func TestThereIsNone(t *testing.T) {
	d := disk.New()
	for _, name := range []string{"a", "", "A"} {
		want(t, "sync", d.Sync(name), api.ErrNone)
		want(t, "rename", d.Rename(name, "b"), api.ErrNone)
		want(t, "rename to none", d.Rename(name, ""), api.ErrNone)
		want(t, "remove", d.Remove(name), api.ErrNone)
		lacks(t, d, name)
	}
	d.Append("a", "x")
	for _, to := range []string{"", "A", strings.Repeat("a", 17)} {
		want(t, "rename to no name", d.Rename("a", to), api.ErrArg)
	}
	holds(t, d, "a", "x", 0)
}

func TestRenameAndRemove(t *testing.T) {
	d := disk.New()
	d.Append("a", "aa")
	d.Sync("a")
	d.Append("a", "AA")
	d.Append("b", "bbb")
	d.Append("c", "c")
	want(t, "rename to itself", d.Rename("a", "a"), api.OK)
	holds(t, d, "a", "aaAA", 2)
	want(t, "rename", d.Rename("a", "b"), api.OK)
	lacks(t, d, "a")
	holds(t, d, "b", "aaAA", 2)
	holds(t, d, "c", "c", 0)
	want(t, "remove", d.Remove("c"), api.OK)
	lacks(t, d, "c")
	want(t, "crash", d.Crash(nil), api.OK)
	lacks(t, d, "a")
	lacks(t, d, "c")
	holds(t, d, "b", "aa", 2)
}

func TestCrashKeeps(t *testing.T) {
	for _, c := range []struct {
		keep []int
		want []string
	}{
		{nil, []string{"Sa", "", "Sc"}},
		{[]int{}, []string{"Sa", "", "Sc"}},
		{[]int{1}, []string{"Sa1", "", "Sc"}},
		{[]int{0, 2}, []string{"Sa", "12", "Sc"}},
		{[]int{-1, math.MinInt, 3}, []string{"Sa", "", "Sc123"}},
		{[]int{4, 3, math.MaxInt, 7}, []string{"Sa123", "123", "Sc123"}},
	} {
		d := disk.New()
		d.Append("c", "Sc")
		d.Append("a", "Sa")
		d.Sync("a")
		d.Sync("c")
		for _, name := range []string{"b", "c", "a"} {
			d.Append(name, "123")
		}
		want(t, "crash", d.Crash(c.keep), api.OK)
		for i, name := range []string{"a", "b", "c"} {
			holds(t, d, name, c.want[i], len(c.want[i]))
		}
	}
}

func TestKeepStaysAsItIs(t *testing.T) {
	d := disk.New()
	d.Append("a", "abc")
	keep := []int{9, -1, 5}
	d.Crash(keep[:1])
	if !slices.Equal(keep, []int{9, -1, 5}) {
		t.Error(keep)
	}
}

// all asks for one error of everything that a disk that is down answers so.
func all(t *testing.T, d *disk.Disk, e api.Errno) {
	t.Helper()
	want(t, "append", d.Append("", strings.Repeat("b", 1<<20+1)), e)
	want(t, "append", d.Append("a", "x"), e)
	want(t, "sync", d.Sync("a"), e)
	want(t, "sync of none", d.Sync("q"), e)
	want(t, "rename", d.Rename("q", ""), e)
	want(t, "remove", d.Remove("q"), e)
	want(t, "arm", d.Arm(-1), e)
	want(t, "arm", d.Arm(1), e)
	if s, got := d.Read("a"); s != "" || got != e {
		t.Errorf("read: %q, %d", s, got)
	}
	if n, got := d.Safe("a"); n != 0 || got != e {
		t.Errorf("safe: %d, %d", n, got)
	}
	if len(d.Names()) != 0 {
		t.Error(d.Names())
	}
}

func TestArm(t *testing.T) {
	d := disk.New()
	d.Append("a", "x")
	d.Sync("a")
	want(t, "arm", d.Arm(-1), api.ErrArg)
	want(t, "arm", d.Arm(math.MinInt), api.ErrArg)
	for n := range 6 {
		want(t, "arm", d.Arm(9), api.OK)
		want(t, "arm anew", d.Arm(n), api.OK)
		ops := []func() api.Errno{
			func() api.Errno { return d.Append("a", "y") },
			func() api.Errno { return d.Sync("a") },
			func() api.Errno { return d.Append("b", "y") },
			func() api.Errno { return d.Rename("b", "c") },
			func() api.Errno { return d.Remove("c") },
		}
		for i, op := range ops {
			if d.Down() != (i >= n) {
				t.Fatalf("armed with %d, behind %d: %v", n, i, d.Down())
			}
			e := api.OK
			if i >= n {
				e = api.ErrDown
			}
			d.Append("A", "no operation")
			d.Sync("none")
			d.Read("a")
			want(t, "operation", op(), e)
		}
		if n <= 5 != d.Down() {
			t.Errorf("armed with %d: %v", n, d.Down())
		}
		all(t, d, api.ErrDown)
		want(t, "crash", d.Crash(nil), api.OK)
		if d.Down() {
			t.Error("down behind a crash")
		}
		if s, _ := d.Read("a"); strings.Trim(s, "xy") != "" || s == "" {
			t.Errorf("%q", s)
		}
		d.Remove("b")
		d.Remove("c")
	}
	d.Arm(1)
	d.Crash(nil)
	for range 3 {
		want(t, "nothing is armed", d.Append("a", "z"), api.OK)
	}
}

func TestNil(t *testing.T) {
	var d *disk.Disk
	all(t, d, api.ErrNil)
	want(t, "crash", d.Crash([]int{1}), api.ErrNil)
	if d.Down() {
		t.Error("down")
	}
}

// Whatever is done, a file's safe bytes are there behind a crash, and behind them a beginning of what was appended; others stay.
func TestSafeStays(t *testing.T) {
	r := rand.New(rand.NewSource(9))
	names := []string{"a", "b", "c"}
	for range 300 {
		d := disk.New()
		bytes, safe := map[string]string{}, map[string]int{}
		for range r.Intn(40) {
			name, to := names[r.Intn(3)], names[r.Intn(3)]
			_, there := bytes[name]
			switch r.Intn(6) {
			case 0, 1, 2:
				s := strings.Repeat(string([]byte{byte('0' + r.Intn(10))}), r.Intn(4))
				d.Append(name, s)
				bytes[name] += s
			case 3:
				if d.Sync(name) == api.OK {
					safe[name] = len(bytes[name])
				}
			case 4:
				if d.Rename(name, to) == api.OK {
					x, n := bytes[name], safe[name]
					delete(bytes, name)
					delete(safe, name)
					bytes[to], safe[to] = x, n
				}
			case 5:
				if e := d.Remove(name); (e == api.OK) != there {
					t.Fatal(e)
				}
				delete(bytes, name)
				delete(safe, name)
			}
			for x, s := range bytes {
				holds(t, d, x, s, safe[x])
			}
		}
		keep := []int{r.Intn(4), r.Intn(4), r.Intn(4)}
		d.Crash(keep)
		for i, name := range d.Names() {
			n := min(safe[name]+keep[i], len(bytes[name]))
			holds(t, d, name, bytes[name][:n], n)
			delete(bytes, name)
		}
		if len(bytes) != 0 {
			t.Fatal("files are gone")
		}
	}
}
