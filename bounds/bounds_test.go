package bounds_test

import (
	"testing"

	"lectern/api"
	"lectern/bounds"
)

var far = []int{-1, -2, -1 << 63, 1<<63 - 1}

func checkBounds(t *testing.T, b *bounds.Bounds, lens []int) {
	t.Helper()
	if b.Count() != len(lens) {
		t.Fatalf("Count of %v: %d", lens, b.Count())
	}
	at := 0
	for i, n := range lens {
		if s, e := b.Start(i); s != at || e != api.OK {
			t.Fatalf("%v: Start(%d): %d, %v, not %d", lens, i, s, e, at)
		}
		if s, e := b.Size(i); s != n || e != api.OK {
			t.Fatalf("%v: Size(%d): %d, %v, not %d", lens, i, s, e, n)
		}
		for k := 0; k <= n; k += 1 + n/300 {
			if j, m, e := b.Where(at + k); j != i || m != k || e != api.OK {
				t.Fatalf("%v: Where(%d): %d, %d, %v, not %d, %d", lens, at+k, j, m, e, i, k)
			}
		}
		if j, m, e := b.Where(at + n); j != i || m != n || e != api.OK {
			t.Fatalf("%v: the separator of %d: %d, %d, %v", lens, i, j, m, e)
		}
		at += n + 1
	}
	if b.All() != at {
		t.Fatalf("All of %v: %d, not %d", lens, b.All(), at)
	}
	for _, i := range append([]int{len(lens), len(lens) + 1}, far...) {
		s, a := b.Start(i)
		n, c := b.Size(i)
		if s != 0 || n != 0 || a != api.ErrNone || c != api.ErrNone {
			t.Errorf("%v: text %d: %v, %v", lens, i, a, c)
		}
	}
	for _, i := range append([]int{at, at + 1}, far...) {
		if j, k, e := b.Where(i); j != 0 || k != 0 || e != api.ErrNone {
			t.Errorf("%v: Where(%d): %d, %d, %v", lens, i, j, k, e)
		}
	}
}

func take(t *testing.T, lens []int) {
	t.Helper()
	b, e := bounds.New(lens...)
	if e != api.OK || b == nil {
		t.Fatalf("New of %v: %v, %v", lens, b, e)
	}
	checkBounds(t, b, lens)
}

// P7.1, P7.2, P7.3.
func TestLengths(t *testing.T) {
	for _, lens := range [][]int{nil, {0}, {0, 0, 0}, {1}, {2, 0}, {0, 2}, {5, 0, 0, 7, 1, 0}, {3, 3, 3, 3, 3}, {100, 1, 50, 0, 2000}} {
		take(t, lens)
	}
}

// The chapter's example.
func TestExample(t *testing.T) {
	b, _ := bounds.New(2, 0)
	if i, k, e := b.Where(2); i != 0 || k != 2 || e != api.OK {
		t.Errorf("Where(2): %d, %d, %v", i, k, e)
	}
	if i, k, e := b.Where(3); i != 1 || k != 0 || e != api.OK {
		t.Errorf("Where(3): %d, %d, %v", i, k, e)
	}
}

// with returns count lengths of n, the last one m.
func with(count, n, m int) []int {
	l := make([]int, count)
	for i := range l {
		l[i] = n
	}
	l[count-1] = m
	return l
}

// P7.1: the limits, on both sides.
func TestLimits(t *testing.T) {
	share := api.MaxList/api.MaxDocs - 1
	take(t, with(api.MaxDocs, 0, 0))
	take(t, with(api.MaxDocs, share, share))
	take(t, []int{api.MaxList - 1})
	take(t, []int{api.MaxList - 2, 0})
	for _, lens := range [][]int{
		with(api.MaxDocs+1, 0, 0),
		with(api.MaxDocs, share, share+1),
		{api.MaxList},
		{api.MaxList - 1, 0},
		{0, api.MaxList - 1},
		{1<<63 - 1},
		{1<<63 - 1, 1<<63 - 1},
		{1<<63 - 1, 1<<63 - 1, 2},
		{1 << 62, 1 << 62, 1 << 62, 1 << 62},
	} {
		if b, e := bounds.New(lens...); b != nil || e != api.ErrLimit {
			t.Errorf("New of %v: %v, %v", lens, b, e)
		}
	}
}

// P7.1: a negative length is the first error.
func TestNegative(t *testing.T) {
	for _, lens := range [][]int{{-1}, {0, -1}, {1<<63 - 1, -1}, {-1 << 63}, with(api.MaxDocs+1, 0, -1), {api.MaxList, -5}} {
		if b, e := bounds.New(lens...); b != nil || e != api.ErrForm {
			t.Errorf("New of %v: %v, %v", lens, b, e)
		}
	}
}

// R2: the argument is neither changed nor kept.
func TestArgument(t *testing.T) {
	l := []int{3, 4}
	b, _ := bounds.New(l...)
	if l[0] != 3 || l[1] != 4 {
		t.Errorf("changed: %v", l)
	}
	l[0] = 9
	checkBounds(t, b, []int{3, 4})
}
