package ints_test

import (
	"bytes"
	"testing"

	"lectern/api"
	"lectern/ints"
)

func top(w int) uint64 { return 1<<w - 1 }

// numbers returns n numbers of width w, some of them with all bits or none.
func numbers(w, n int) []uint64 {
	l := make([]uint64, n)
	s := uint64(n*67 + w + 1)
	for i := range l {
		s = s*6364136223846793005 + 1442695040888963407
		switch i % 5 {
		case 0:
			l[i] = top(w)
		case 1:
			l[i] = 0
		default:
			l[i] = s & top(w)
			if w > 0 && i%5 == 2 {
				l[i] = 1 << (w - 1)
			}
		}
	}
	return l
}

// plainBytes sets bit after bit, as P2.2 says.
func plainBytes(w int, l []uint64) []byte {
	b := make([]byte, (len(l)*w+7)/8)
	for i, x := range l {
		for k := range w {
			if x>>k&1 == 1 {
				b[(i*w+k)/8] |= 1 << ((i*w + k) % 8)
			}
		}
	}
	return b
}

func checkInts(t *testing.T, x *ints.Ints, w int, l []uint64) {
	t.Helper()
	if x.Len() != len(l) || x.Width() != w {
		t.Fatalf("Len %d, Width %d, not %d, %d", x.Len(), x.Width(), len(l), w)
	}
	for i, y := range l {
		if g, e := x.Get(i); g != y || e != api.OK {
			t.Fatalf("width %d: Get(%d): %d, %v, not %d", w, i, g, e, y)
		}
	}
	for _, i := range []int{-1, -1 << 63, len(l), len(l) + 1, 1<<63 - 1} {
		if g, e := x.Get(i); g != 0 || e != api.ErrNone {
			t.Errorf("width %d: Get(%d) of %d: %d, %v", w, i, len(l), g, e)
		}
	}
	if b := x.Bytes(); !bytes.Equal(b, plainBytes(w, l)) {
		t.Errorf("width %d, %d numbers: Bytes %x, not %x", w, len(l), b, plainBytes(w, l))
	}
}

// P2.1, P2.2, P2.3: every width, and back from the bytes.
func TestEveryWidth(t *testing.T) {
	for w := range 65 {
		for _, n := range []int{0, 1, 2, 7, 8, 9, 63, 64, 65, 200} {
			l := numbers(w, n)
			x, e := ints.New(w, l...)
			if e != api.OK {
				t.Fatalf("New(%d) of %d: %v", w, n, e)
			}
			checkInts(t, x, w, l)
			y, e := ints.Parse(w, n, x.Bytes())
			if e != api.OK {
				t.Fatalf("Parse(%d, %d): %v", w, n, e)
			}
			checkInts(t, y, w, l)
		}
	}
}

// The chapter's example.
func TestExample(t *testing.T) {
	x, e := ints.New(3, 5, 6)
	if e != api.OK || !bytes.Equal(x.Bytes(), []byte{0x35}) {
		t.Errorf("%v, %x", e, x.Bytes())
	}
}

// P2.1: what New refuses, and in which order.
func TestNewErrors(t *testing.T) {
	long := make([]uint64, api.MaxList+1)
	bad := make([]uint64, api.MaxList+1)
	bad[api.MaxList] = 8
	for _, c := range []struct {
		w int
		l []uint64
		e api.Errno
	}{
		{-1, nil, api.ErrForm},
		{65, nil, api.ErrForm},
		{-1 << 63, []uint64{0}, api.ErrForm},
		{1<<63 - 1, []uint64{0}, api.ErrForm},
		{0, []uint64{0, 1}, api.ErrForm},
		{1, []uint64{2}, api.ErrForm},
		{3, []uint64{7, 7, 8}, api.ErrForm},
		{63, []uint64{1 << 63}, api.ErrForm},
		{3, long, api.ErrLimit},
		{0, long, api.ErrLimit},
		{64, long, api.ErrLimit},
		{3, bad, api.ErrForm},
		{65, long, api.ErrForm},
	} {
		if x, e := ints.New(c.w, c.l...); x != nil || e != c.e {
			t.Errorf("New(%d) of %d numbers: %v, %v, not %v", c.w, len(c.l), x, e, c.e)
		}
	}
}

// P2.1, P2.2: as many numbers as there may be.
func TestLimit(t *testing.T) {
	for _, w := range []int{0, 1, 17, 64} {
		l := numbers(w, api.MaxList)
		x, e := ints.New(w, l...)
		if e != api.OK {
			t.Fatalf("New(%d): %v", w, e)
		}
		checkInts(t, x, w, l)
		y, e := ints.Parse(w, api.MaxList, x.Bytes())
		if e != api.OK {
			t.Fatalf("Parse(%d): %v", w, e)
		}
		checkInts(t, y, w, l)
		if z, e := ints.Parse(w, api.MaxList+1, make([]byte, (w*(api.MaxList+1)+7)/8)); z != nil || e != api.ErrForm {
			t.Errorf("Parse(%d) above the limit: %v, %v", w, z, e)
		}
	}
}

// P2.2: what is not exactly somebody's Bytes.
func TestParseErrors(t *testing.T) {
	for _, c := range []struct {
		w, n int
		b    []byte
	}{
		{-1, 0, nil},
		{65, 0, nil},
		{65, 8, make([]byte, 65)},
		{-8, -1, []byte{0}},
		{8, -1, nil},
		{0, -1, nil},
		{1<<63 - 1, 2, nil},
		{8, 1<<63 - 1, nil},
		{64, 1 << 58, nil},
		{3, 2, nil},
		{3, 2, []byte{0, 0}},
		{3, 2, []byte{0x40}},
		{3, 2, []byte{0x80}},
		{3, 0, []byte{0}},
		{0, 5, []byte{0}},
		{8, 2, []byte{1}},
		{8, 2, []byte{1, 2, 3}},
		{9, 1, []byte{0, 2}},
		{9, 1, []byte{0, 0x80}},
		{1, 9, []byte{0xff, 3}},
	} {
		if x, e := ints.Parse(c.w, c.n, c.b); x != nil || e != api.ErrForm {
			t.Errorf("Parse(%d, %d, %x): %v, %v", c.w, c.n, c.b, x, e)
		}
	}
	for w := range 9 {
		for n := range 5 {
			for b := range 256 {
				want := api.ErrForm
				if (w*n+7)/8 == 1 && b>>(w*n) == 0 {
					want = api.OK
				}
				if _, e := ints.Parse(w, n, []byte{byte(b)}); e != want {
					t.Errorf("Parse(%d, %d, %x): %v", w, n, b, e)
				}
			}
		}
	}
}

// R2: arguments are not kept, results are new.
func TestMemory(t *testing.T) {
	l := []uint64{1, 2, 3}
	x, _ := ints.New(5, l...)
	l[0] = 9
	b := x.Bytes()
	y, _ := ints.Parse(5, 3, b)
	b[0] = 0xff
	_ = append(b, 7)
	checkInts(t, x, 5, []uint64{1, 2, 3})
	checkInts(t, y, 5, []uint64{1, 2, 3})
}
