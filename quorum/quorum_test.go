package quorum_test

import (
	"slices"
	"testing"

	"lectern/api"
	"lectern/quorum"
)

// P24.1, P24.3: all sets of voters.
func TestEnough(t *testing.T) {
	for n := 1; n <= api.MaxNodes; n++ {
		for set := range 1 << n {
			var votes []int
			for id := 1; id <= n; id++ {
				if set>>(id-1)&1 == 1 {
					votes = append(votes, id)
				}
			}
			want := len(votes) > n-len(votes)
			noise := append(slices.Repeat(votes, 3), 0, -1, n+1, 8, 100, -1<<63, 1<<63-1)
			slices.Reverse(noise)
			for _, l := range [][]int{votes, noise} {
				if got, e := quorum.Enough(n, l...); got != want || e != api.OK {
					t.Errorf("Enough(%d, %v): %v, %v", n, l, got, e)
				}
			}
		}
	}
}

// P24.1: numbers of nodes that there may not be.
func TestEnoughErrors(t *testing.T) {
	for _, n := range []int{0, -1, api.MaxNodes + 1, -1 << 63, 1<<63 - 1} {
		if got, e := quorum.Enough(n, 1, 2, 3, 4, 5, 6, 7); got || e != api.ErrForm {
			t.Errorf("Enough(%d): %v, %v", n, got, e)
		}
	}
}

// plainIndex tries all numbers that are there.
func plainIndex(match []int) int {
	best := 0
	for _, i := range match {
		count := 0
		for _, m := range match {
			if m >= i {
				count++
			}
		}
		if 2*count > len(match) {
			best = max(best, i)
		}
	}
	return best
}

// P24.2: all short lists of small numbers, and great numbers.
func TestIndex(t *testing.T) {
	lists := [][]int{{5, 2, 9}, {1<<63 - 1}, {1<<63 - 1, 0}, {0, 1<<63 - 1, 1<<63 - 1}, {7, 6, 5, 4, 3, 2, 1}, {1, 9, 2, 8, 3, 7, 4}}
	for n := 1; n <= api.MaxNodes; n++ {
		for x := range 1 << (2 * min(n, 6)) {
			var l []int
			for i := range n {
				l = append(l, x>>(2*i)&3)
			}
			lists = append(lists, l)
		}
	}
	for _, l := range lists {
		before := slices.Clone(l)
		if i, e := quorum.Index(l...); i != plainIndex(l) || e != api.OK {
			t.Fatalf("Index(%v): %d, %v, not %d", l, i, e, plainIndex(l))
		}
		if !slices.Equal(l, before) {
			t.Fatalf("the argument changed: %v, not %v", l, before)
		}
	}
}

// P24.2: what Index refuses.
func TestIndexErrors(t *testing.T) {
	for _, l := range [][]int{nil, {}, {-1}, {5, -1, 5}, {1, 2, 3, -1 << 63}, make([]int, api.MaxNodes+1), make([]int, 100)} {
		if i, e := quorum.Index(l...); i != 0 || e != api.ErrForm {
			t.Errorf("Index(%v): %d, %v", l, i, e)
		}
	}
}

// The chapter's examples.
func TestExamples(t *testing.T) {
	if got, e := quorum.Enough(3, 1, 3); !got || e != api.OK {
		t.Errorf("Enough(3, 1, 3): %v, %v", got, e)
	}
	if i, e := quorum.Index(5, 2, 9); i != 5 || e != api.OK {
		t.Errorf("Index(5, 2, 9): %d, %v", i, e)
	}
}
