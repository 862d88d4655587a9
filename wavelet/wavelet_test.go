package wavelet_test

import (
	"testing"

	"lectern/api"
	"lectern/wavelet"
)

func symbols(k, n int) []int {
	l := make([]int, n)
	s := uint64(n*31 + k)
	for i := range l {
		s = s*6364136223846793005 + 1442695040888963407
		l[i] = int(s >> 33 % uint64(k))
		if i%7 == 3 {
			l[i] = k - 1
		}
	}
	return l
}

func build(t *testing.T, k int, l []int) *wavelet.Tree {
	t.Helper()
	w, e := wavelet.New(k, l...)
	if e != api.OK || w == nil {
		t.Fatalf("New(%d) of %d symbols: %v, %v", k, len(l), w, e)
	}
	if w.Len() != len(l) || w.Kinds() != k {
		t.Fatalf("Len %d, Kinds %d, not %d, %d", w.Len(), w.Kinds(), len(l), k)
	}
	return w
}

func checkTree(t *testing.T, w *wavelet.Tree, k int, l []int) {
	t.Helper()
	seen := make([]int, k)
	for i := range len(l) + 1 {
		for c := range k {
			if k > 20 && (c+i)%37 != 0 && (i == len(l) || c != l[i]) {
				continue
			}
			if r, e := w.Rank(c, i); r != seen[c] || e != api.OK {
				t.Fatalf("k %d: Rank(%d, %d): %d, %v, not %d", k, c, i, r, e, seen[c])
			}
		}
		if i == len(l) {
			break
		}
		c := l[i]
		if g, e := w.Access(i); g != c || e != api.OK {
			t.Fatalf("k %d: Access(%d): %d, %v, not %d", k, i, g, e, c)
		}
		if at, e := w.Select(c, seen[c]); at != i || e != api.OK {
			t.Fatalf("k %d: Select(%d, %d): %d, %v, not %d", k, c, seen[c], at, e, i)
		}
		seen[c]++
	}
	checkCounts(t, w, k, seen)
}

func checkCounts(t *testing.T, w *wavelet.Tree, k int, seen []int) {
	t.Helper()
	below := 0
	for c := range k {
		if n, e := w.Less(c); n != below || e != api.OK {
			t.Fatalf("Less(%d): %d, %v, not %d", c, n, e, below)
		}
		for _, j := range []int{-1, -1 << 63, seen[c], seen[c] + 1, 1<<63 - 1} {
			if at, e := w.Select(c, j); at != 0 || e != api.ErrNone {
				t.Fatalf("Select(%d, %d) of %d: %d, %v", c, j, seen[c], at, e)
			}
		}
		below += seen[c]
	}
	if n, e := w.Less(k); n != below || e != api.OK {
		t.Fatalf("Less(k): %d, %v, not %d", n, e, below)
	}
}

func checkRefusals(t *testing.T, w *wavelet.Tree, k, n int) {
	t.Helper()
	for _, c := range []int{-1, -1 << 63, k, k + 1, 512, 1<<63 - 1} {
		for _, i := range []int{-1, 0, n, n + 1} {
			if r, e := w.Rank(c, i); r != 0 || e != api.ErrForm {
				t.Errorf("Rank(%d, %d): %d, %v", c, i, r, e)
			}
			if r, e := w.Select(c, i); r != 0 || e != api.ErrForm {
				t.Errorf("Select(%d, %d): %d, %v", c, i, r, e)
			}
		}
		if r, e := w.Less(c); c != k && (r != 0 || e != api.ErrForm) {
			t.Errorf("Less(%d): %d, %v", c, r, e)
		}
	}
	for _, i := range []int{-1, -1 << 63, n, n + 1, 1<<63 - 1} {
		if c, e := w.Access(i); c != 0 || e != api.ErrNone {
			t.Errorf("Access(%d) of %d: %d, %v", i, n, c, e)
		}
		if r, e := w.Rank(0, i); i != n && (r != 0 || e != api.ErrNone) {
			t.Errorf("Rank(0, %d) of %d: %d, %v", i, n, r, e)
		}
	}
}

// P3.1, P3.2: all answers, for numbers of symbols about the powers of two.
func TestAgainstPlainList(t *testing.T) {
	for _, k := range []int{1, 2, 3, 4, 5, 7, 8, 9, 16, 17, 255, 256, 257, 511, 512} {
		for _, n := range []int{0, 1, 2, 3, 64, 65, 513, 700} {
			l := symbols(k, n)
			w := build(t, k, l)
			checkTree(t, w, k, l)
			checkRefusals(t, w, k, n)
		}
	}
}

// The chapter's example.
func TestExample(t *testing.T) {
	w := build(t, 3, []int{2, 0, 2})
	r, a := w.Rank(2, 3)
	s, b := w.Select(2, 1)
	n, c := w.Less(2)
	if r != 2 || s != 2 || n != 1 || a != api.OK || b != api.OK || c != api.OK {
		t.Errorf("%d, %d, %d: %v, %v, %v", r, s, n, a, b, c)
	}
}

// P3.1: what New refuses, and in which order.
func TestNewErrors(t *testing.T) {
	long := make([]int, api.MaxList+1)
	bad := make([]int, api.MaxList+1)
	bad[api.MaxList] = 2
	for _, c := range []struct {
		k int
		l []int
		e api.Errno
	}{
		{0, nil, api.ErrForm},
		{-1, nil, api.ErrForm},
		{-1 << 63, nil, api.ErrForm},
		{api.MaxSymbols + 1, nil, api.ErrForm},
		{1<<63 - 1, nil, api.ErrForm},
		{1, []int{1}, api.ErrForm},
		{2, []int{0, -1}, api.ErrForm},
		{2, []int{0, 1, 2}, api.ErrForm},
		{512, []int{512}, api.ErrForm},
		{2, []int{-1 << 63}, api.ErrForm},
		{2, []int{1<<63 - 1}, api.ErrForm},
		{2, long, api.ErrLimit},
		{2, bad, api.ErrForm},
		{0, long, api.ErrForm},
	} {
		if w, e := wavelet.New(c.k, c.l...); w != nil || e != c.e {
			t.Errorf("New(%d) of %d symbols: %v, %v, not %v", c.k, len(c.l), w, e, c.e)
		}
	}
}

// P3.1: as many symbols as there may be; P3.3 for them.
func TestLimit(t *testing.T) {
	l := symbols(512, api.MaxList)
	w := build(t, 512, l)
	counts := make([]int, 512)
	for _, c := range l {
		counts[c]++
	}
	for c := range 512 {
		a, _ := w.Less(c)
		b, _ := w.Less(c + 1)
		r, e := w.Rank(c, api.MaxList)
		if b-a != r || r != counts[c] || e != api.OK {
			t.Fatalf("%d: Less %d, %d, Rank %d, not %d", c, a, b, r, counts[c])
		}
	}
	for i := 0; i < api.MaxList; i += 997 {
		if c, e := w.Access(i); c != l[i] || e != api.OK {
			t.Fatalf("Access(%d): %d, %v", i, c, e)
		}
	}
}

// R2: the argument is neither changed nor kept.
func TestArgument(t *testing.T) {
	l := symbols(9, 100)
	before := append([]int{}, l...)
	w := build(t, 9, l)
	for i := range l {
		if l[i] != before[i] {
			t.Fatalf("symbol %d of the argument changed", i)
		}
		l[i] = 0
	}
	checkTree(t, w, 9, before)
}
