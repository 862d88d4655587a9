package sum_test

import (
	"hash/crc32"
	"testing"

	"lectern/sum"
)

func bytesOf(n int) []byte {
	b := make([]byte, n)
	s := uint64(n + 1)
	for i := range b {
		s = s*6364136223846793005 + 1442695040888963407
		b[i] = byte(s >> 40)
	}
	return b
}

// The chapter's example, and other known sums.
func TestKnown(t *testing.T) {
	for _, c := range []struct {
		text string
		sum  uint32
	}{
		{"123456789", 0xcbf43926},
		{"", 0},
		{"a", 0xe8b7be43},
		{"\x00", 0xd202ef8d},
		{"\xff\xff\xff\xff", 0xffffffff},
		{"The quick brown fox jumps over the lazy dog", 0x414fa339},
	} {
		if s := sum.Sum(0, []byte(c.text)...); s != c.sum {
			t.Errorf("%q: %x, not %x", c.text, s, c.sum)
		}
	}
}

// P9.1: every byte, and long texts.
func TestAgainstLibrary(t *testing.T) {
	for x := range 256 {
		if s := sum.Sum(0, byte(x)); s != crc32.ChecksumIEEE([]byte{byte(x)}) {
			t.Errorf("byte %d: %x", x, s)
		}
	}
	for _, n := range []int{2, 3, 4, 5, 15, 16, 17, 255, 1000, 1 << 20} {
		b := bytesOf(n)
		if s := sum.Sum(0, b...); s != crc32.ChecksumIEEE(b) {
			t.Errorf("%d bytes: %x", n, s)
		}
		for _, from := range []uint32{1, 0xffffffff, 0x80000000, 0xcbf43926} {
			if s := sum.Sum(from, b...); s != crc32.Update(from, crc32.IEEETable, b) {
				t.Errorf("%d bytes behind %x: %x", n, from, s)
			}
		}
	}
}

// P9.2: the sum of two pieces is that of both in one.
func TestPieces(t *testing.T) {
	b := bytesOf(300)
	want := sum.Sum(0, b...)
	for i := range b {
		if s := sum.Sum(sum.Sum(0, b[:i]...), b[i:]...); s != want {
			t.Errorf("cut at %d: %x, not %x", i, s, want)
		}
	}
	if s := sum.Sum(want); s != want {
		t.Errorf("nothing more: %x, not %x", s, want)
	}
}

// P9.2: every single bit counts.
func TestBits(t *testing.T) {
	b := bytesOf(70)
	want := sum.Sum(0, b...)
	for i := range 8 * len(b) {
		b[i/8] ^= 1 << (i % 8)
		if sum.Sum(0, b...) == want {
			t.Errorf("bit %d makes no difference", i)
		}
		b[i/8] ^= 1 << (i % 8)
	}
	if sum.Sum(0, b...) != want {
		t.Errorf("the argument changed")
	}
}
