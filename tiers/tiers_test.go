package tiers_test

import (
	"slices"
	"strconv"
	"strings"
	"testing"

	"lectern/api"
	"lectern/tiers"
)

// P12.1: classes, by the digits that strconv writes.
func TestClass(t *testing.T) {
	for _, n := range []int{0, -1, -2, -100, -1 << 63} {
		if c := tiers.Class(n); c != 0 {
			t.Errorf("Class(%d): %d", n, c)
		}
	}
	numbers := []int{1<<63 - 1}
	for i := range 63 {
		numbers = append(numbers, 1<<i, 1<<i+1<<i/2)
	}
	for i := range 1000 {
		numbers = append(numbers, i+1)
	}
	for _, n := range numbers {
		if c := tiers.Class(n); c != len(strconv.FormatInt(int64(n), 2)) {
			t.Errorf("Class(%d): %d", n, c)
		}
	}
}

func plainPlan(sizes []int) (int, bool) {
	for i := 0; i+api.Tier <= len(sizes); i++ {
		same := true
		for _, n := range sizes[i : i+api.Tier] {
			same = same && tiers.Class(n) == tiers.Class(sizes[i])
		}
		if same {
			return i, true
		}
	}
	return 0, false
}

// P12.1: plans.
func TestPlan(t *testing.T) {
	for _, c := range []struct {
		sizes []int
		i     int
		ok    bool
	}{
		{nil, 0, false},
		{[]int{1, 1, 1}, 0, false},
		{[]int{1, 1, 1, 1}, 0, true},
		{[]int{9, 1, 1, 1, 1}, 1, true},
		{[]int{1, 1, 1, 2, 1, 1, 1}, 0, false},
		{[]int{1, 1, 1, 2, 3, 3, 2}, 3, true},
		{[]int{0, -1, -5, 0}, 0, true},
		{[]int{0, 0, 0, 1, 1, 1, 1, 0, 0, 0, 0}, 3, true},
		{[]int{4, 7, 5, 6, 4}, 0, true},
		{[]int{4, 8, 4, 8, 8, 8, 15}, 3, true},
		{[]int{3, 4, 4, 4, 7, 8}, 1, true},
	} {
		if i, ok := tiers.Plan(c.sizes...); i != c.i || ok != c.ok {
			t.Errorf("Plan(%v): %d, %v, not %d, %v", c.sizes, i, ok, c.i, c.ok)
		}
	}
	for x := range 1 << 16 {
		var sizes []int
		for i := range 8 {
			sizes = append(sizes, x>>(2*i)&3)
		}
		i, ok := tiers.Plan(sizes...)
		if wantI, want := plainPlan(sizes); i != wantI || ok != want {
			t.Fatalf("Plan(%v): %d, %v, not %d, %v", sizes, i, ok, wantI, want)
		}
	}
}

func docs(ids string) []api.Doc {
	var l []api.Doc
	for _, id := range strings.Fields(ids) {
		l = append(l, api.Doc{ID: strings.Trim(id, "-"), Text: "text of " + id})
	}
	return l
}

// P12.2, P12.3: merging, in any order.
func TestMerge(t *testing.T) {
	for _, c := range [][]string{
		{},
		{""},
		{"", ""},
		{"a b c"},
		{"b d", "a c e"},
		{"z", "y", "x", "a b", "", "- aa"},
		{"\xff", "\x00 a", "A"},
	} {
		var lists [][]api.Doc
		var want []api.Doc
		for _, ids := range c {
			lists = append(lists, docs(ids))
			want = append(want, docs(ids)...)
		}
		slices.SortFunc(want, func(a, b api.Doc) int { return strings.Compare(a.ID, b.ID) })
		for range 2 {
			if got, e := tiers.Merge(lists...); e != api.OK || !slices.Equal(got, want) {
				t.Errorf("Merge of %q: %v, %v, not %v", c, got, e, want)
			}
			slices.Reverse(lists)
		}
	}
}

// P12.2: errors and their order; IDs and texts have no limits here.
func TestMergeErrors(t *testing.T) {
	for _, c := range []struct {
		lists []string
		e     api.Errno
	}{
		{[]string{"a a"}, api.ErrForm},
		{[]string{"b a"}, api.ErrForm},
		{[]string{"a b", "d c"}, api.ErrForm},
		{[]string{"a b", "a", "d c"}, api.ErrForm},
		{[]string{"a c", "b c"}, api.ErrThere},
		{[]string{"a", "a"}, api.ErrThere},
		{[]string{"a b", "c", "b d"}, api.ErrThere},
		{[]string{"-", "-"}, api.ErrThere},
	} {
		var lists [][]api.Doc
		for _, ids := range c.lists {
			lists = append(lists, docs(ids))
		}
		if got, e := tiers.Merge(lists...); len(got) != 0 || e != c.e {
			t.Errorf("Merge of %q: %v, %v, not %v", c.lists, got, e, c.e)
		}
	}
	long := []api.Doc{{ID: strings.Repeat("x", 1000), Text: strings.Repeat("y", 100000)}}
	if got, e := tiers.Merge(long, docs("a")); e != api.OK || len(got) != 2 || got[1] != long[0] {
		t.Errorf("a long document: %v", e)
	}
}

// R2: arguments are not changed, results are new.
func TestMemory(t *testing.T) {
	a, b := docs("c d"), docs("a e")
	got, _ := tiers.Merge(a, b)
	for i := range got {
		got[i].ID = "other"
	}
	if !slices.Equal(a, docs("c d")) || !slices.Equal(b, docs("a e")) {
		t.Errorf("%v, %v", a, b)
	}
	one, _ := tiers.Merge(a)
	one[0].ID = "other"
	_ = append(one[:1], api.Doc{})
	if !slices.Equal(a, docs("c d")) {
		t.Errorf("%v", a)
	}
}
