package bits_test

import (
	"testing"

	"lectern/api"
	"lectern/bits"
)

func make1(t *testing.T, l []bool) *bits.Vector {
	t.Helper()
	v, e := bits.New(l...)
	if e != api.OK || v == nil {
		t.Fatalf("New of %d bits: %v, %v", len(l), v, e)
	}
	return v
}

func patterns(n int) [][]bool {
	var out [][]bool
	for _, f := range []func(i int) bool{
		func(int) bool { return false },
		func(int) bool { return true },
		func(i int) bool { return i%2 == 0 },
		func(i int) bool { return i%64 == 63 },
		func(i int) bool { return i%512 == 0 },
		func(i int) bool { return i*i%11 < 4 },
		func(i int) bool { return i > n-3 },
		func(i int) bool { return uint32(i)*2654435761>>31 == 1 },
	} {
		l := make([]bool, n)
		for i := range l {
			l[i] = f(i)
		}
		out = append(out, l)
	}
	return out
}

func checkVector(t *testing.T, v *bits.Vector, l []bool) {
	t.Helper()
	if v.Len() != len(l) {
		t.Fatalf("Len %d of %d", v.Len(), len(l))
	}
	counts := map[bool]int{}
	for i, b := range l {
		if g, e := v.Get(i); g != b || e != api.OK {
			t.Fatalf("Get(%d): %v, %v", i, g, e)
		}
		if r, e := v.Rank(i); r != counts[true] || e != api.OK {
			t.Fatalf("Rank(%d): %d, %v, not %d", i, r, e, counts[true])
		}
		find := v.Select0
		if b {
			find = v.Select
		}
		if at, e := find(counts[b]); at != i || e != api.OK {
			t.Fatalf("%v number %d: %d, %v, not %d", b, counts[b], at, e, i)
		}
		counts[b]++
	}
	if r, e := v.Rank(len(l)); r != counts[true] || e != api.OK {
		t.Fatalf("Rank(Len): %d, %v", r, e)
	}
	checkOutside(t, v, len(l), counts[true], counts[false])
}

func checkOutside(t *testing.T, v *bits.Vector, n, ones, zeros int) {
	t.Helper()
	for _, i := range []int{-1, -64, -1 << 63, n, n + 1, n + 64, n + 1000, 1<<63 - 1} {
		if b, e := v.Get(i); b || e != api.ErrNone {
			t.Errorf("Get(%d) of %d: %v, %v", i, n, b, e)
		}
		if r, e := v.Rank(i); i != n && (r != 0 || e != api.ErrNone) {
			t.Errorf("Rank(%d) of %d: %v, %v", i, n, r, e)
		}
	}
	for _, k := range []int{-1, -1 << 63, ones, ones + 1, 1<<63 - 1} {
		if at, e := v.Select(k); at != 0 || e != api.ErrNone {
			t.Errorf("Select(%d) of %d ones: %v, %v", k, ones, at, e)
		}
	}
	for _, k := range []int{-1, -1 << 63, zeros, zeros + 1, 1<<63 - 1} {
		if at, e := v.Select0(k); at != 0 || e != api.ErrNone {
			t.Errorf("Select0(%d) of %d zeros: %v, %v", k, zeros, at, e)
		}
	}
}

// P1.1, P1.2: every bit, rank and place, about the bounds of words and blocks.
func TestAgainstPlainList(t *testing.T) {
	for _, n := range []int{0, 1, 2, 63, 64, 65, 127, 128, 129, 511, 512, 513, 1023, 1024, 1025, 3000} {
		for _, l := range patterns(n) {
			checkVector(t, make1(t, l), l)
		}
	}
}

// The chapter's example.
func TestExample(t *testing.T) {
	v := make1(t, []bool{true, false, true})
	if r, e := v.Rank(2); r != 1 || e != api.OK {
		t.Errorf("Rank(2): %d, %v", r, e)
	}
	if at, e := v.Select(1); at != 2 || e != api.OK {
		t.Errorf("Select(1): %d, %v", at, e)
	}
}

// P1.1: the limit, and one above it.
func TestLimit(t *testing.T) {
	l := make([]bool, api.MaxBits+1)
	for i := range l {
		l[i] = i%3 == 0
	}
	if v, e := bits.New(l...); v != nil || e != api.ErrLimit {
		t.Errorf("above the limit: %v, %v", v, e)
	}
	v := make1(t, l[:api.MaxBits])
	ones := (api.MaxBits + 2) / 3
	if r, e := v.Rank(api.MaxBits); r != ones || e != api.OK {
		t.Errorf("Rank: %d, %v, not %d", r, e, ones)
	}
	if at, e := v.Select(ones - 1); at != 3*(ones-1) || e != api.OK {
		t.Errorf("Select: %d, %v", at, e)
	}
	checkOutside(t, v, api.MaxBits, ones, api.MaxBits-ones)
}

// P1.3: Rank and Select are inverse to each other.
func TestInverse(t *testing.T) {
	for _, l := range patterns(5000) {
		v := make1(t, l)
		for k := 0; ; k++ {
			at, e := v.Select(k)
			if e != api.OK {
				break
			}
			if r, e := v.Rank(at); r != k || e != api.OK {
				t.Fatalf("Rank(Select(%d)): %d, %v", k, r, e)
			}
		}
	}
}

// R2: the argument is neither changed nor kept.
func TestArgument(t *testing.T) {
	l := patterns(200)[5]
	before := append([]bool{}, l...)
	v := make1(t, l)
	for i := range l {
		if l[i] != before[i] {
			t.Fatalf("bit %d of the argument changed", i)
		}
		l[i] = !l[i]
	}
	checkVector(t, v, before)
}
