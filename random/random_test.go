package random_test

import (
	"testing"

	"lectern/random"
)

var seeds = []uint64{0, 1, 2, 3, 1 << 63, 1<<64 - 1, 1<<63 - 1, 0x9e3779b97f4a7c15, 0xff, 1 << 13, 1 << 32, 12345678901234567890}

func plain(s uint64) uint64 {
	if s == 0 {
		s = 0x9e3779b97f4a7c15
	}
	s ^= s << 13
	s ^= s >> 7
	s ^= s << 17
	return s
}

// P21.1: the chapter's example, and known numbers.
func TestExample(t *testing.T) {
	if n := random.Next(1); n != 0x40822041 {
		t.Errorf("Next(1): %#x", n)
	}
	if random.Next(0) != random.Next(0x9e3779b97f4a7c15) {
		t.Errorf("Next(0): %#x", random.Next(0))
	}
}

// P21.1, P21.2: long sequences.
func TestNext(t *testing.T) {
	for _, s := range seeds {
		for range 1000 {
			n := random.Next(s)
			if n != plain(s) || n == 0 {
				t.Fatalf("Next(%#x): %#x, not %#x", s, n, plain(s))
			}
			s = n
		}
	}
}

// P21.1: the remainders, also for limits of which there is nothing below.
func TestBelow(t *testing.T) {
	for _, s := range seeds {
		for _, n := range []int{1, 2, 3, 10, 1000, 1 << 40, 1<<63 - 1} {
			for range 100 {
				next, k := random.Below(s, n)
				if next != plain(s) || k != int(next%uint64(n)) {
					t.Fatalf("Below(%#x, %d): %#x, %d", s, n, next, k)
				}
				s = next
			}
		}
		for _, n := range []int{0, -1, -10, -1 << 63} {
			if next, k := random.Below(s, n); next != plain(s) || k != 0 {
				t.Errorf("Below(%#x, %d): %#x, %d", s, n, next, k)
			}
		}
	}
}
