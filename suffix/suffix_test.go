package suffix_test

import (
	"slices"
	"testing"

	"lectern/api"
	"lectern/suffix"
)

func plainSort(l []int) []int {
	a := make([]int, len(l))
	for i := range a {
		a[i] = i
	}
	slices.SortFunc(a, func(i, j int) int { return slices.Compare(l[i:], l[j:]) })
	return a
}

func plainCommon(l, a []int) []int {
	out := make([]int, len(a))
	for r := 1; r < len(a); r++ {
		i, j := a[r-1], a[r]
		for max(i, j) < len(l) && l[i] == l[j] {
			i, j = i+1, j+1
			out[r]++
		}
	}
	return out
}

func checkList(t *testing.T, l []int) {
	t.Helper()
	before := slices.Clone(l)
	a, e := suffix.Sort(l...)
	if want := plainSort(l); e != api.OK || !slices.Equal(a, want) {
		t.Fatalf("Sort of %v: %v, %v, not %v", l, a, e, want)
	}
	c, e := suffix.Common(l, a)
	if want := plainCommon(l, a); e != api.OK || !slices.Equal(c, want) {
		t.Fatalf("Common of %v: %v, %v, not %v", l, c, e, want)
	}
	if !slices.Equal(l, before) {
		t.Fatalf("the argument changed: %v", before)
	}
}

// every calls f for all lists of n symbols below k.
func every(k, n int, f func(l []int)) {
	l := make([]int, n)
	for {
		f(l)
		i := 0
		for i < n && l[i] == k-1 {
			l[i] = 0
			i++
		}
		if i == n {
			return
		}
		l[i]++
	}
}

// P4.1: all short lists.
func TestShortLists(t *testing.T) {
	for n := range 11 {
		every(2, n, func(l []int) { checkList(t, l) })
	}
	for n := range 8 {
		every(3, n, func(l []int) { checkList(t, l) })
	}
}

func fibonacci(n int) []int {
	a, b := []int{0}, []int{0, 1}
	for len(b) < n {
		a, b = b, append(slices.Clone(b), a...)
	}
	return b[:n]
}

// P4.1: lists that repeat themselves, and lists by chance.
func TestLongerLists(t *testing.T) {
	s := uint64(5)
	for _, k := range []int{1, 2, 3, 5, 257, api.MaxSymbols} {
		for _, n := range []int{0, 1, 2, 50, 300, 1000} {
			l := make([]int, n)
			for i := range l {
				s = s*6364136223846793005 + 1442695040888963407
				l[i] = int(s >> 33 % uint64(k))
			}
			checkList(t, l)
			for i := range l {
				l[i] = k - 1
			}
			checkList(t, l)
			for i := range l {
				l[i] = max(0, k-1-i%7)
			}
			checkList(t, l)
		}
	}
	checkList(t, fibonacci(987))
	checkList(t, fibonacci(1000))
}

// The chapter's example.
func TestExample(t *testing.T) {
	a, e := suffix.Sort(1, 0, 1, 0)
	if e != api.OK || !slices.Equal(a, []int{3, 1, 2, 0}) {
		t.Errorf("Sort: %v, %v", a, e)
	}
	c, e := suffix.Common([]int{1, 0, 1, 0}, a)
	if e != api.OK || !slices.Equal(c, []int{0, 1, 0, 2}) {
		t.Errorf("Common: %v, %v", c, e)
	}
}

// P4.1: the limits of symbols and lists, and the order of the errors.
func TestSortErrors(t *testing.T) {
	long := make([]int, api.MaxList+1)
	bad := make([]int, api.MaxList+1)
	bad[api.MaxList] = -1
	for _, c := range []struct {
		l []int
		e api.Errno
	}{
		{[]int{-1}, api.ErrForm},
		{[]int{0, api.MaxSymbols}, api.ErrForm},
		{[]int{0, 1<<63 - 1}, api.ErrForm},
		{[]int{-1 << 63, 0}, api.ErrForm},
		{[]int{1 << 32}, api.ErrForm},
		{long, api.ErrLimit},
		{bad, api.ErrForm},
	} {
		if a, e := suffix.Sort(c.l...); len(a) != 0 || e != c.e {
			t.Errorf("Sort of %d symbols: %d rows, %v, not %v", len(c.l), len(a), e, c.e)
		}
	}
	if c, e := suffix.Common(long, make([]int, len(long))); len(c) != 0 || e != api.ErrForm {
		t.Errorf("Common above the limit: %v", e)
	}
}

// P4.1: Common takes nothing but the suffix array.
func TestCommonErrors(t *testing.T) {
	l := []int{1, 0, 1, 0}
	for _, a := range [][]int{
		nil, {3, 1, 2}, {3, 1, 2, 0, 4}, {1, 3, 2, 0}, {0, 1, 2, 3}, {3, 3, 2, 0}, {3, 1, 2, -1}, {3, 1, 2, 4}, {-1 << 63, 1, 2, 0}, {1<<63 - 1, 1, 2, 0},
	} {
		if c, e := suffix.Common(l, a); len(c) != 0 || e != api.ErrForm {
			t.Errorf("Common with %v: %v, %v", a, c, e)
		}
	}
	if c, e := suffix.Common([]int{0, -1}, []int{1, 0}); len(c) != 0 || e != api.ErrForm {
		t.Errorf("a negative symbol: %v, %v", c, e)
	}
	if c, e := suffix.Common([]int{0, api.MaxSymbols}, []int{0, 1}); len(c) != 0 || e != api.ErrForm {
		t.Errorf("a great symbol: %v, %v", c, e)
	}
	if c, e := suffix.Common(nil, []int{0}); len(c) != 0 || e != api.ErrForm {
		t.Errorf("a row too many: %v, %v", c, e)
	}
}

// ascending checks a suffix array and its common prefixes in one pass.
func ascending(t *testing.T, l []int) {
	t.Helper()
	a, e := suffix.Sort(l...)
	if e != api.OK || len(a) != len(l) {
		t.Fatalf("Sort: %d rows, %v", len(a), e)
	}
	c, e := suffix.Common(l, a)
	if e != api.OK || len(c) != len(l) || c[0] != 0 {
		t.Fatalf("Common: %d rows, %v", len(c), e)
	}
	seen := make([]bool, len(l))
	for r, i := range a {
		if seen[i] {
			t.Fatalf("suffix %d is there twice", i)
		}
		seen[i] = true
		if r == 0 {
			continue
		}
		x, y := l[a[r-1]:], l[i:]
		if len(y) <= c[r] || len(x) > c[r] && x[c[r]] >= y[c[r]] {
			t.Fatalf("rows %d and %d: not ascending behind %d symbols", r-1, r, c[r])
		}
	}
	for _, r := range []int{1, len(l) / 3, len(l) - 1} {
		if !slices.Equal(l[a[r-1]:a[r-1]+c[r]], l[a[r]:a[r]+c[r]]) {
			t.Fatalf("row %d has less than %d symbols in common", r, c[r])
		}
	}
}

// P4.1, P4.2: as many symbols as there may be, also where all suffixes begin alike.
func TestLimit(t *testing.T) {
	l := make([]int, api.MaxList)
	ascending(t, l)
	for i := range l {
		l[i] = api.MaxSymbols - 1
	}
	ascending(t, l)
	ascending(t, fibonacci(api.MaxList))
	s := uint64(9)
	for i := range l {
		s = s*6364136223846793005 + 1442695040888963407
		l[i] = int(s >> 55)
	}
	ascending(t, l)
	for i := range l {
		l[i] = api.MaxSymbols - 1 - i%api.MaxSymbols
	}
	ascending(t, l)
}

// R2: the results are new each time.
func TestMemory(t *testing.T) {
	l := []int{1, 0, 1, 0}
	a, _ := suffix.Sort(l...)
	c, _ := suffix.Common(l, a)
	c[0] = 7
	if !slices.Equal(a, []int{3, 1, 2, 0}) || !slices.Equal(l, []int{1, 0, 1, 0}) {
		t.Errorf("%v, %v", a, l)
	}
}
