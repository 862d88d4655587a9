package fm_test

import (
	"slices"
	"testing"

	"lectern/api"
	"lectern/bwt"
	"lectern/fm"
	"lectern/wavelet"
)

// plain is what an index over l answers, by its words.
type plain struct {
	l      []int
	starts []int // of each row
}

func newPlain(l []int) plain {
	p := plain{l, make([]int, len(l)+1)}
	for i := range p.starts {
		p.starts[i] = i
	}
	slices.SortFunc(p.starts, func(i, j int) int { return slices.Compare(l[i:], l[j:]) })
	return p
}

func (p plain) rows(w []int) (from, to int) {
	for r, i := range p.starts {
		if i+len(w) <= len(p.l) && slices.Equal(p.l[i:i+len(w)], w) {
			if to == 0 {
				from = r
			}
			to = r + 1
		}
	}
	return from, to
}

func build(t *testing.T, k int, l []int) *fm.Index {
	t.Helper()
	x, e := fm.Build(k, l...)
	if e != api.OK || x == nil {
		t.Fatalf("Build(%d) of %d symbols: %v, %v", k, len(l), x, e)
	}
	return x
}

func checkPattern(t *testing.T, x *fm.Index, p plain, w []int) {
	t.Helper()
	from, to := p.rows(w)
	a, b, e := x.Rows(w...)
	if a != from || b != to || e != api.OK {
		t.Fatalf("Rows(%v) in %v: %d, %d, %v, not %d, %d", w, p.l, a, b, e, from, to)
	}
	if n, e := x.Hits(w...); n != to-from || e != api.OK {
		t.Fatalf("Hits(%v) in %v: %d, %v, not %d", w, p.l, n, e, to-from)
	}
	want := slices.Clone(p.starts[from:to])
	slices.Sort(want)
	if l, e := x.Find(w...); !slices.Equal(l, want) || e != api.OK {
		t.Fatalf("Find(%v) in %v: %v, %v, not %v", w, p.l, l, e, want)
	}
}

func checkPlaces(t *testing.T, x *fm.Index, p plain) {
	t.Helper()
	n := len(p.l)
	for r, i := range p.starts {
		if at, e := x.Place(r); at != i || e != api.OK {
			t.Fatalf("Place(%d) in %v: %d, %v, not %d", r, p.l, at, e, i)
		}
	}
	for from := 0; from <= n; from += 1 + n/40 {
		for size := 0; from+size <= n; size += 1 + n/40 {
			if l, e := x.Text(from, size); !slices.Equal(l, p.l[from:from+size]) || e != api.OK {
				t.Fatalf("Text(%d, %d) of %v: %v, %v", from, size, p.l, l, e)
			}
		}
	}
}

func checkTree(t *testing.T, x *fm.Index, k int, l []int) {
	t.Helper()
	b, _, _ := bwt.Make(l...)
	if x.Tree == nil || x.Len() != len(l) || x.Kinds() != k {
		t.Fatalf("the embedded tree of %v", l)
	}
	for i, c := range b {
		if g, e := x.Access(i); g != c || e != api.OK {
			t.Fatalf("Access(%d) of %v: %d, %v, not %d", i, l, g, e, c)
		}
	}
}

// every calls f for all lists of n symbols below k.
func every(k, n int, f func(l []int)) {
	l := make([]int, n)
	for {
		f(l)
		i := 0
		for i < n && l[i] == k-1 {
			l[i] = 0
			i++
		}
		if i == n {
			return
		}
		l[i]++
	}
}

// P6.1 to P6.4: all short lists with all short patterns.
func TestShortLists(t *testing.T) {
	for n := range 7 {
		every(2, n, func(l []int) {
			p := newPlain(slices.Clone(l))
			x := build(t, 2, l)
			checkTree(t, x, 2, l)
			checkPlaces(t, x, p)
			for m := 1; m < 4; m++ {
				every(2, m, func(w []int) { checkPattern(t, x, p, w) })
			}
		})
	}
}

func byChance(k, n int) []int {
	l := make([]int, n)
	s := uint64(n + k)
	for i := range l {
		s = s*6364136223846793005 + 1442695040888963407
		l[i] = int(s >> 33 % uint64(k))
	}
	return l
}

// P6.1 to P6.4: longer lists.
func TestLongerLists(t *testing.T) {
	for _, k := range []int{1, 2, 4, 257, api.MaxSymbols} {
		for _, n := range []int{1, 7, 8, 9, 63, 64, 65, 400} {
			l := byChance(k, n)
			x := build(t, k, l)
			p := newPlain(l)
			checkTree(t, x, k, l)
			checkPlaces(t, x, p)
			for i := 0; i < n; i += 1 + n/50 {
				for _, m := range []int{1, 2, 5, 50} {
					w := slices.Clone(l[i:min(i+m, n)])
					checkPattern(t, x, p, w)
					w[len(w)-1] = k - 1
					checkPattern(t, x, p, w)
				}
			}
			checkPattern(t, x, p, append(slices.Clone(l), 0))
			checkPattern(t, x, p, l)
		}
	}
}

// The chapter's example.
func TestExample(t *testing.T) {
	x := build(t, 2, []int{1, 0, 1, 0})
	if l, e := x.Find(1, 0); e != api.OK || !slices.Equal(l, []int{0, 2}) {
		t.Errorf("%v, %v", l, e)
	}
}

// P6.1: Build returns the error of wavelet.New.
func TestBuildErrors(t *testing.T) {
	long := make([]int, api.MaxList+1)
	bad := make([]int, api.MaxList+1)
	bad[api.MaxList] = 2
	for _, c := range []struct {
		k int
		l []int
		e api.Errno
	}{
		{0, nil, api.ErrForm},
		{-1, []int{0}, api.ErrForm},
		{api.MaxSymbols + 1, nil, api.ErrForm},
		{2, []int{0, 2}, api.ErrForm},
		{2, []int{-1}, api.ErrForm},
		{512, []int{512}, api.ErrForm},
		{2, long, api.ErrLimit},
		{2, bad, api.ErrForm},
		{0, long, api.ErrForm},
		{513, long, api.ErrForm},
	} {
		if _, e := wavelet.New(c.k, c.l...); e != c.e {
			t.Fatalf("wavelet.New(%d): %v", c.k, e)
		}
		if x, e := fm.Build(c.k, c.l...); x != nil || e != c.e {
			t.Errorf("Build(%d) of %d symbols: %v, %v, not %v", c.k, len(c.l), x, e, c.e)
		}
	}
}

// P6.2, P6.3: invalid patterns, rows and places.
func TestQueryErrors(t *testing.T) {
	for _, l := range [][]int{nil, {0}, {1, 0, 1, 0}} {
		x := build(t, 2, l)
		n := len(l)
		for _, c := range []struct {
			p []int
			e api.Errno
		}{
			{nil, api.ErrEmpty},
			{[]int{-1}, api.ErrForm},
			{[]int{2}, api.ErrForm},
			{[]int{1, 1, 1, 1, 2}, api.ErrForm},
			{[]int{2, 1, 1, 1, 1}, api.ErrForm},
			{[]int{1<<63 - 1}, api.ErrForm},
			{[]int{-1 << 63}, api.ErrForm},
		} {
			from, to, a := x.Rows(c.p...)
			hits, b := x.Hits(c.p...)
			found, d := x.Find(c.p...)
			if from != 0 || to != 0 || hits != 0 || len(found) != 0 || a != c.e || b != c.e || d != c.e {
				t.Errorf("%v in %v: %v, %v, %v, not %v", c.p, l, a, b, d, c.e)
			}
		}
		for _, r := range []int{-1, -1 << 63, n + 1, n + 2, 1<<63 - 1} {
			if i, e := x.Place(r); i != 0 || e != api.ErrNone {
				t.Errorf("Place(%d) in %v: %d, %v", r, l, i, e)
			}
		}
		for _, c := range [][2]int{{-1, 0}, {0, -1}, {-1, 1}, {0, n + 1}, {n, 1}, {n + 1, 0}, {n + 1, -1}, {1, 1<<63 - 1}, {1<<63 - 1, 1}, {1<<63 - 1, 1<<63 - 1}, {-1 << 63, 1 << 62}} {
			if s, e := x.Text(c[0], c[1]); len(s) != 0 || e != api.ErrNone {
				t.Errorf("Text(%d, %d) of %v: %v, %v", c[0], c[1], l, s, e)
			}
		}
	}
}

// P6.1 to P6.3: as many symbols as there may be.
func TestLimit(t *testing.T) {
	l := byChance(api.MaxSymbols, api.MaxList)
	x := build(t, api.MaxSymbols, l)
	var want []int
	for i, c := range l {
		if c == l[4] {
			want = append(want, i)
		}
	}
	if got, e := x.Find(l[4]); e != api.OK || !slices.Equal(got, want) {
		t.Errorf("Find: %d places, %v, not %d", len(got), e, len(want))
	}
	if s, e := x.Text(0, len(l)); e != api.OK || !slices.Equal(s, l) {
		t.Errorf("Text: %d symbols, %v", len(s), e)
	}
	same := build(t, 1, make([]int, api.MaxList))
	if places, e := same.Find(0, 0); e != api.OK || len(places) != api.MaxList-1 || places[0] != 0 || places[api.MaxList-2] != api.MaxList-2 {
		t.Errorf("Find in equal symbols: %d places, %v", len(places), e)
	}
	if n, e := same.Hits(make([]int, api.MaxList)...); n != 1 || e != api.OK {
		t.Errorf("the whole list: %d, %v", n, e)
	}
	if n, e := same.Hits(make([]int, api.MaxList+1)...); n != 0 || e != api.OK {
		t.Errorf("more than the whole list: %d, %v", n, e)
	}
}

// R2: arguments are not kept, results are new.
func TestMemory(t *testing.T) {
	l := []int{1, 0, 1, 0, 1, 1, 0, 0, 1}
	before := slices.Clone(l)
	x := build(t, 2, l)
	w := []int{1, 0}
	f, _ := x.Find(w...)
	s, _ := x.Text(0, 9)
	for i := range l {
		l[i] = 0
		s[i] = 7
	}
	f[0] = 5
	p := newPlain(before)
	checkPlaces(t, x, p)
	checkPattern(t, x, p, w)
}
