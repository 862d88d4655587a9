package bwt_test

import (
	"slices"
	"testing"

	"lectern/api"
	"lectern/bwt"
)

func plainMake(l []int) (b []int, at int) {
	rows := make([]int, len(l)+1)
	for i := range rows {
		rows[i] = i
	}
	slices.SortFunc(rows, func(i, j int) int { return slices.Compare(l[i:], l[j:]) })
	for r, i := range rows {
		if i == 0 {
			at = r
			continue
		}
		b = append(b, l[i-1])
	}
	return b, at
}

func checkList(t *testing.T, l []int) {
	t.Helper()
	want, where := plainMake(l)
	b, at, e := bwt.Make(l...)
	if e != api.OK || at != where || !slices.Equal(b, want) {
		t.Fatalf("Make of %v: %v, %d, %v, not %v, %d", l, b, at, e, want, where)
	}
	back, e := bwt.Back(at, b...)
	if e != api.OK || !slices.Equal(back, l) {
		t.Fatalf("Back of %v, %d: %v, %v, not %v", b, at, back, e, l)
	}
}

// every calls f for all lists of n symbols below k.
func every(k, n int, f func(l []int)) {
	l := make([]int, n)
	for {
		f(l)
		i := 0
		for i < n && l[i] == k-1 {
			l[i] = 0
			i++
		}
		if i == n {
			return
		}
		l[i]++
	}
}

// P5.1, P5.3: all short lists, and back.
func TestShortLists(t *testing.T) {
	for n := range 10 {
		every(2, n, func(l []int) { checkList(t, l) })
	}
	for n := range 7 {
		every(3, n, func(l []int) { checkList(t, l) })
	}
}

func byChance(k, n int) []int {
	l := make([]int, n)
	s := uint64(n + k)
	for i := range l {
		s = s*6364136223846793005 + 1442695040888963407
		l[i] = int(s >> 33 % uint64(k))
	}
	return l
}

// P5.1, P5.3: longer lists.
func TestLongerLists(t *testing.T) {
	for _, k := range []int{1, 2, 5, 257, api.MaxSymbols} {
		for _, n := range []int{1, 2, 100, 600} {
			checkList(t, byChance(k, n))
		}
	}
	checkList(t, []int{511, 511, 0, 511, 511, 0})
}

// P5.2: exactly what Make returns is taken back: all short lists with all rows.
func TestBackTakesNothingElse(t *testing.T) {
	for n := range 8 {
		made := map[string]bool{}
		key := func(b []int, at int) string {
			s := []byte{byte(at)}
			for _, c := range b {
				s = append(s, byte(c))
			}
			return string(s)
		}
		k := 2
		if n < 6 {
			k = 3
		}
		every(k, n, func(l []int) {
			b, at := plainMake(l)
			made[key(b, at)] = true
		})
		every(k, n, func(b []int) {
			for at := -1; at <= n+1; at++ {
				l, e := bwt.Back(at, b...)
				if want := at >= 0 && made[key(b, at)]; (e == api.OK) != want || e != api.OK && (e != api.ErrForm || len(l) != 0) {
					t.Fatalf("Back(%d) of %v: %v, %v", at, b, l, e)
				}
			}
		})
	}
}

// The chapter's example.
func TestExample(t *testing.T) {
	b, at, e := bwt.Make(1, 0, 1, 0)
	if e != api.OK || at != 4 || !slices.Equal(b, []int{0, 1, 1, 0}) {
		t.Errorf("%v, %d, %v", b, at, e)
	}
}

// P5.1, P5.2: invalid symbols, lists that are too long.
func TestErrors(t *testing.T) {
	long := make([]int, api.MaxList+1)
	bad := make([]int, api.MaxList+1)
	bad[3] = api.MaxSymbols
	for _, c := range []struct {
		l []int
		e api.Errno
	}{
		{[]int{-1}, api.ErrForm},
		{[]int{0, api.MaxSymbols}, api.ErrForm},
		{[]int{-1 << 63}, api.ErrForm},
		{[]int{1<<63 - 1}, api.ErrForm},
		{long, api.ErrLimit},
		{bad, api.ErrForm},
	} {
		if b, at, e := bwt.Make(c.l...); len(b) != 0 || at != 0 || e != c.e {
			t.Errorf("Make of %d symbols: %d, %d, %v, not %v", len(c.l), len(b), at, e, c.e)
		}
		for _, at := range []int{0, 1, len(c.l)} {
			if l, e := bwt.Back(at, c.l...); len(l) != 0 || e != api.ErrForm {
				t.Errorf("Back(%d) of %d symbols: %d, %v", at, len(c.l), len(l), e)
			}
		}
	}
	for _, at := range []int{-1, -1 << 63, 1, 2, 1<<63 - 1} {
		if l, e := bwt.Back(at); len(l) != 0 || e != api.ErrForm {
			t.Errorf("Back(%d) of nothing: %v, %v", at, l, e)
		}
	}
}

// P5.1, P5.2: as many symbols as there may be.
func TestLimit(t *testing.T) {
	for _, k := range []int{1, 2, api.MaxSymbols} {
		l := byChance(k, api.MaxList)
		b, at, e := bwt.Make(l...)
		if e != api.OK || len(b) != len(l) {
			t.Fatalf("Make: %d symbols, %v", len(b), e)
		}
		back, e := bwt.Back(at, b...)
		if e != api.OK || !slices.Equal(back, l) {
			t.Fatalf("Back: %d symbols, %v", len(back), e)
		}
	}
}

// R2: the arguments are not changed.
func TestArguments(t *testing.T) {
	l := []int{1, 0, 1, 0}
	b, at, _ := bwt.Make(l...)
	if _, e := bwt.Back(at, b...); e != api.OK || !slices.Equal(b, []int{0, 1, 1, 0}) || !slices.Equal(l, []int{1, 0, 1, 0}) {
		t.Errorf("%v, %v, %v", b, l, e)
	}
}
