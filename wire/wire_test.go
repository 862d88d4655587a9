package wire_test

import (
	"bytes"
	"slices"
	"strings"
	"testing"

	"lectern/api"
	"lectern/wire"
)

func plainNum(n int) []byte {
	b := []byte{byte(n % 128)}
	if n /= 128; n > 0 {
		b[0] += 128
		b = append(b, plainNum(n)...)
	}
	return b
}

func someNumbers() []int {
	l := []int{0, 1, 5, 300, 1<<63 - 1, 1<<63 - 2}
	for i := range 63 {
		l = append(l, 1<<i, 1<<i-1, 1<<i|1)
	}
	return l
}

// P10.1, P10.3: numbers of all sizes, and back, whatever stands behind them.
func TestNumbers(t *testing.T) {
	for _, n := range someNumbers() {
		b, e := wire.Num(n)
		if e != api.OK || !bytes.Equal(b, plainNum(n)) {
			t.Fatalf("Num(%d): %x, %v, not %x", n, b, e, plainNum(n))
		}
		for _, tail := range []string{"", "\x00", "\xff\xff", "\x80", "abcdefghijkl"} {
			m, size, e := wire.GetNum(append(slices.Clone(b), tail...))
			if m != n || size != len(b) || e != api.OK {
				t.Fatalf("GetNum(%x %x): %d, %d, %v", b, tail, m, size, e)
			}
		}
		for i := range b {
			if m, size, e := wire.GetNum(b[:i]); m != 0 || size != 0 || e != api.ErrForm {
				t.Fatalf("GetNum(%x): %d, %d, %v", b[:i], m, size, e)
			}
		}
	}
}

// P10.1: what is no number's encoding.
func TestNumberErrors(t *testing.T) {
	for _, n := range []int{-1, -2, -128, -1 << 63} {
		if b, e := wire.Num(n); len(b) != 0 || e != api.ErrForm {
			t.Errorf("Num(%d): %x, %v", n, b, e)
		}
	}
	for _, b := range []string{
		"", "\x80", "\xff", "\x80\x00", "\x81\x00", "\xff\x00", "\x80\x80\x00", "\x80\x80",
		"\x80\x80\x80\x80\x80\x80\x80\x80\x80\x01", "\xff\xff\xff\xff\xff\xff\xff\xff\xff\x01",
		"\xff\xff\xff\xff\xff\xff\xff\xff\xff", "\x80\x80\x80\x80\x80\x80\x80\x80\x80\x00",
		"\x80\x80\x80\x80\x80\x80\x80\x80\x00", "\xff\xff\xff\xff\xff\xff\xff\xff\xff\x00",
		"\xff\xff\xff\xff\xff\xff\xff\xff\xff\xff\x7f",
	} {
		if n, size, e := wire.GetNum([]byte(b)); n != 0 || size != 0 || e != api.ErrForm {
			t.Errorf("GetNum(%x): %d, %d, %v", b, n, size, e)
		}
	}
}

// P10.1: all beginnings of two bytes.
func TestTwoBytes(t *testing.T) {
	for x := range 1 << 16 {
		b := []byte{byte(x), byte(x >> 8)}
		n, size, e := wire.GetNum(b)
		wantN, wantSize, want := int(b[0]&127)|int(b[1])<<7, 2, api.OK
		switch {
		case b[0] < 128:
			wantN, wantSize = int(b[0]), 1
		case b[1] == 0 || b[1] > 127:
			wantN, wantSize, want = 0, 0, api.ErrForm
		}
		if n != wantN || size != wantSize || e != want {
			t.Fatalf("GetNum(%x): %d, %d, %v", b, n, size, e)
		}
	}
}

func plainPut(l []string) []byte {
	b := plainNum(len(l))
	for _, s := range l {
		b = append(append(b, plainNum(len(s))...), s...)
	}
	return b
}

var lists = [][]string{
	nil,
	{""},
	{"a", ""},
	{"", "", ""},
	{"\x00", "\x80", "\xff\xff"},
	{strings.Repeat("x", 127), strings.Repeat("y", 128), strings.Repeat("z", 20000)},
	make([]string, 127),
	make([]string, 128),
	make([]string, 20000),
}

// P10.2, P10.3: lists, and back; and nothing but whole encodings.
func TestLists(t *testing.T) {
	for _, l := range lists {
		b, e := wire.Put(l...)
		if e != api.OK || !bytes.Equal(b, plainPut(l)) {
			t.Fatalf("Put of %d strings: %d bytes, %v", len(l), len(b), e)
		}
		back, e := wire.Get(b)
		if e != api.OK || !slices.Equal(back, l) {
			t.Fatalf("Get of %d bytes: %d strings, %v", len(b), len(back), e)
		}
		if got, e := wire.Get(append(slices.Clone(b), 0)); len(got) != 0 || e != api.ErrForm {
			t.Errorf("a byte too many: %d strings, %v", len(got), e)
		}
		for i := 0; i < len(b); i += 1 + len(b)/100 {
			if got, e := wire.Get(b[:i]); len(got) != 0 || e != api.ErrForm {
				t.Errorf("%d bytes of %d: %d strings, %v", i, len(b), len(got), e)
			}
		}
	}
}

// The chapter's example.
func TestExample(t *testing.T) {
	if b, e := wire.Put("a", ""); e != api.OK || string(b) != "\x02\x01a\x00" {
		t.Errorf("%x, %v", b, e)
	}
}

// P10.2: what is no list's encoding.
func TestGetErrors(t *testing.T) {
	for _, b := range []string{
		"", "\x80", "\x80\x00", "\x01", "\x01\x02a", "\x02\x01a", "\x01\x81\x00a", "\x81\x00\x00", "\x00\x00",
		"\xff\xff\xff\xff\xff\xff\xff\xff\x7f", "\x01\xff\xff\xff\xff\xff\xff\xff\xff\x7f", "\x01\xff\xff\xff\xff\xff\xff\xff\xff\xff\x01",
		"\xff\xff\xff\xff\x0f\x00\x00", "\x03\x00\x00",
	} {
		if l, e := wire.Get([]byte(b)); len(l) != 0 || e != api.ErrForm {
			t.Errorf("Get(%x): %q, %v", b, l, e)
		}
	}
	for x := range 1 << 16 {
		b := []byte{byte(x), byte(x >> 8)}
		want := api.ErrForm
		if x == 1 {
			want = api.OK
		}
		if l, e := wire.Get(b); e != want {
			t.Errorf("Get(%x): %q, %v", b, l, e)
		}
	}
}

// P10.2: encodings of MaxFile bytes, and of one more.
func TestLimit(t *testing.T) {
	fits := strings.Repeat("x", api.MaxFile-4)
	b, e := wire.Put(fits)
	if e != api.OK || len(b) != api.MaxFile {
		t.Fatalf("Put: %d bytes, %v", len(b), e)
	}
	if l, e := wire.Get(b); e != api.OK || len(l) != 1 || l[0] != fits {
		t.Errorf("Get: %d strings, %v", len(l), e)
	}
	if b, e := wire.Put(fits + "x"); len(b) != 0 || e != api.ErrLimit {
		t.Errorf("Put of a byte more: %d bytes, %v", len(b), e)
	}
	if b, e := wire.Put(fits, ""); len(b) != 0 || e != api.ErrLimit {
		t.Errorf("Put of a string more: %d bytes, %v", len(b), e)
	}
	if l, e := wire.Get(plainPut([]string{fits + "x"})); len(l) != 0 || e != api.ErrForm {
		t.Errorf("Get of a byte more: %d strings, %v", len(l), e)
	}
	// The number of a string's length has a byte more from 128 on.
	if b, e := wire.Put(fits[:api.MaxFile-6-128], fits[:128]); len(b) != api.MaxFile || e != api.OK {
		t.Errorf("Put of two strings: %d bytes, %v", len(b), e)
	}
	if b, e := wire.Put(fits[:api.MaxFile-5-128], fits[:128]); len(b) != 0 || e != api.ErrLimit {
		t.Errorf("Put of two strings and a byte more: %d bytes, %v", len(b), e)
	}
	empty := make([]string, api.MaxFile-3)
	if b, e := wire.Put(empty...); len(b) != api.MaxFile || e != api.OK {
		t.Errorf("Put of empty strings: %d bytes, %v", len(b), e)
	}
	if b, e := wire.Put(append(empty, "")...); len(b) != 0 || e != api.ErrLimit {
		t.Errorf("Put of one more: %d bytes, %v", len(b), e)
	}
}

// R2: results are new.
func TestMemory(t *testing.T) {
	b, _ := wire.Put("abc")
	l, _ := wire.Get(b)
	b[2] = 'x'
	if l[0] != "abc" {
		t.Errorf("%q", l[0])
	}
	c, _ := wire.Put("abc")
	if string(c) != "\x01\x03abc" {
		t.Errorf("%q", c)
	}
}
