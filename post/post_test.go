package post_test

import (
	"math"
	"math/rand"
	"slices"
	"testing"

	"cavalcade/api"
	"cavalcade/post"
)

func newPoster(t *testing.T, patience, window int) *post.Poster {
	t.Helper()
	p, e := post.New(patience, window)
	if p == nil || e != api.OK {
		t.Fatalf("New(%d, %d): %d", patience, window, e)
	}
	return p
}

// look asks what is told, and what is out then.
func look(t *testing.T, p *post.Poster, height, landed, cuts int, told, out []int) {
	t.Helper()
	if l := p.Look(height, landed, cuts); !slices.Equal(l, told) {
		t.Errorf("Look(%d, %d, %d): %v, not %v", height, landed, cuts, l, told)
	}
	if l := p.Out(); !slices.Equal(l, out) {
		t.Errorf("behind Look(%d, %d, %d): out are %v, not %v", height, landed, cuts, l, out)
	}
}

func TestNew(t *testing.T) {
	for _, c := range [][2]int{{0, 1}, {-1, 1}, {4097, 1}, {1, 0}, {1, -1}, {1, 65}, {math.MinInt, 1}, {1, math.MaxInt}} {
		if p, e := post.New(c[0], c[1]); p != nil || e != api.ErrArg {
			t.Errorf("New(%d, %d): %d", c[0], c[1], e)
		}
	}
	if l := newPoster(t, 4096, 64).Look(0, 0, 99); len(l) != 64 || l[63] != 63 {
		t.Error(l)
	}
	newPoster(t, 1, 1)
}

func TestExample(t *testing.T) {
	p := newPoster(t, 3, 2)
	look(t, p, 5, 0, 9, []int{0, 1}, []int{0, 1})
	look(t, p, 6, 0, 9, nil, []int{0, 1})
	look(t, p, 7, 1, 9, []int{2}, []int{1, 2})
	look(t, p, 8, 1, 9, []int{1}, []int{1, 2})
}

func TestLook(t *testing.T) {
	p := newPoster(t, 3, 3)
	look(t, p, 4, 0, 0, nil, nil)
	look(t, p, 4, 0, 1, []int{0}, []int{0})
	look(t, p, 4, 0, 2, []int{1}, []int{0, 1})
	for _, c := range [][3]int{{-1, 2, 9}, {9, -1, 9}, {9, 2, -1}, {math.MinInt, math.MinInt, math.MinInt}} {
		look(t, p, c[0], c[1], c[2], nil, []int{0, 1})
	}
	look(t, p, 6, 0, 9, []int{2}, []int{0, 1, 2})
	look(t, p, 7, 0, 9, []int{0, 1}, []int{0, 1, 2})
	look(t, p, 9, 0, 9, []int{2}, []int{0, 1, 2})
	look(t, p, 9, 2, 9, []int{3, 4}, []int{2, 3, 4})
	// Ahead of the height at which they were handed over.
	look(t, p, 8, 2, 9, []int{2, 3, 4}, []int{2, 3, 4})
	look(t, p, 8, 2, 9, nil, []int{2, 3, 4})
	// What had landed, and is turned away, was never handed over.
	look(t, p, 9, 5, 5, nil, nil)
	look(t, p, 9, 3, 5, []int{3, 4}, []int{3, 4})
	// Fewer cuts, and fewer that landed: what is beyond stays out, and is not told.
	look(t, p, 20, 3, 4, []int{3}, []int{3, 4})
	look(t, p, 20, 0, 9, []int{0, 1, 2}, []int{0, 1, 2, 3, 4})
	look(t, p, 30, 4, 0, nil, []int{4})
	look(t, p, 30, 9, 0, nil, nil)
}

func TestGreatNumbers(t *testing.T) {
	p := newPoster(t, 3, 2)
	look(t, p, math.MaxInt, math.MaxInt-1, math.MaxInt, []int{math.MaxInt - 1}, []int{math.MaxInt - 1})
	look(t, p, math.MaxInt, math.MaxInt, math.MaxInt, nil, nil)
	look(t, p, 0, math.MaxInt, 0, nil, nil)
	look(t, p, math.MaxInt, 0, math.MaxInt, []int{0, 1}, []int{0, 1})
	look(t, p, 0, 0, math.MaxInt, []int{0, 1}, []int{0, 1})
	look(t, p, 2, 0, math.MaxInt, nil, []int{0, 1})
	look(t, p, math.MaxInt, 0, math.MaxInt, []int{0, 1}, []int{0, 1})
}

func TestNil(t *testing.T) {
	var p *post.Poster
	if len(p.Look(1, 0, 9)) != 0 || len(p.Out()) != 0 {
		t.Error("of nil")
	}
}

// What is told lies from landed on, within the window and below cuts; what does not land is told again.
func TestInOrderAndAgain(t *testing.T) {
	r := rand.New(rand.NewSource(22))
	for range 200 {
		patience, window := 1+r.Intn(5), 1+r.Intn(5)
		p := newPoster(t, patience, window)
		at := map[int]int{}
		height, landed, cuts := 0, 0, 0
		for range 60 {
			height = max(height+r.Intn(4)-r.Intn(2), 0)
			cuts += r.Intn(2)
			landed = min(cuts, max(landed+r.Intn(3)-1, 0))
			told := p.Look(height, landed, cuts)
			for n := range at {
				if n < landed {
					delete(at, n)
				}
			}
			var want []int
			for n := landed; n < landed+window && n < cuts; n++ {
				if h, ok := at[n]; !ok || height >= h+patience || height < h {
					want = append(want, n)
					at[n] = height
				}
			}
			if !slices.Equal(told, want) {
				t.Fatalf("%v, not %v", told, want)
			}
		}
	}
}
