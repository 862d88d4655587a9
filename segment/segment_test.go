package segment_test

import (
	"slices"
	"strings"
	"testing"

	"lectern/api"
	"lectern/fm"
	"lectern/segment"
)

func build(t *testing.T, d []api.Doc) *segment.Segment {
	t.Helper()
	s, e := segment.New(d...)
	if e != api.OK || s == nil {
		t.Fatalf("New of %d documents: %v, %v", len(d), s, e)
	}
	return s
}

func plainSearch(d []api.Doc, p string) []api.Hit {
	var l []api.Hit
	for _, doc := range d {
		for at := 0; at+len(p) <= len(doc.Text); at++ {
			if doc.Text[at:at+len(p)] == p {
				l = append(l, api.Hit{ID: doc.ID, At: at})
			}
		}
	}
	return l
}

func checkSegment(t *testing.T, s *segment.Segment, d []api.Doc) {
	t.Helper()
	size := 0
	for _, doc := range d {
		size += len(doc.Text)
		if text, e := s.Doc(doc.ID); text != doc.Text || e != api.OK {
			t.Fatalf("Doc(%q): %q, %v", doc.ID, text, e)
		}
	}
	if s.Size() != size || !slices.Equal(s.Docs(), d) {
		t.Fatalf("Size %d, Docs %v, not %d, %v", s.Size(), s.Docs(), size, d)
	}
	for _, p := range patterns(d) {
		if l, e := s.Search(p); e != api.OK || !slices.Equal(l, plainSearch(d, p)) {
			t.Fatalf("Search(%q): %v, %v, not %v", p, l, e, plainSearch(d, p))
		}
	}
}

func patterns(d []api.Doc) []string {
	l := []string{"x", "xx", "\x00", "\xff", "ab", "é", "x\x00", "not there", strings.Repeat("x", api.MaxPattern)}
	for _, doc := range d {
		l = append(l, doc.ID)
		if n := len(doc.Text); n > 0 {
			l = append(l, doc.Text, doc.Text[n/2:], doc.Text[:1], doc.Text[n-1:], doc.Text+"x")
		}
	}
	return l
}

var lists = [][]api.Doc{
	nil,
	{{ID: "a"}},
	{{ID: "a", Text: "xx"}, {ID: "b", Text: "x"}},
	{{ID: "a", Text: ""}, {ID: "b", Text: "abababa"}, {ID: "ba", Text: ""}, {ID: "c", Text: "bab"}},
	{{ID: "\x00", Text: "\x00\xff\x00"}, {ID: "\xff", Text: "\xff\x00\xff\xff"}},
	{{ID: "A", Text: "a"}, {ID: "AA", Text: "ab"}, {ID: "a", Text: "caf\u00e9"}, {ID: strings.Repeat("z", 64), Text: "x x x"}},
}

// P8.1, P8.2.
func TestLists(t *testing.T) {
	for _, d := range lists {
		checkSegment(t, build(t, d), d)
	}
}

// The chapter's example.
func TestExample(t *testing.T) {
	l, e := build(t, lists[2]).Search("x")
	if want := []api.Hit{{ID: "a", At: 0}, {ID: "a", At: 1}, {ID: "b", At: 0}}; e != api.OK || !slices.Equal(l, want) {
		t.Errorf("%v, %v", l, e)
	}
}

// P8.3: no hit goes from one text into the next.
func TestNoHitAcross(t *testing.T) {
	s := build(t, []api.Doc{{ID: "a", Text: "ab"}, {ID: "b", Text: "ab"}})
	for _, p := range []string{"ba", "abab", "b\x00a", "b\xffa"} {
		if l, e := s.Search(p); len(l) != 0 || e != api.OK {
			t.Errorf("Search(%q): %v, %v", p, l, e)
		}
	}
}

// P8.1: the embedded index is that of the texts.
func TestIndex(t *testing.T) {
	for _, d := range lists {
		var l []int
		for _, doc := range d {
			for _, b := range []byte(doc.Text) {
				l = append(l, int(b)+1)
			}
			l = append(l, 0)
		}
		var x *fm.Index = build(t, d).Index
		if x == nil || x.Len() != len(l) || x.Kinds() != 257 {
			t.Fatalf("the index of %v: %d symbols of %d", d, x.Len(), x.Kinds())
		}
		if got, e := x.Text(0, len(l)); e != api.OK || !slices.Equal(got, l) {
			t.Errorf("Text of %v: %v, %v, not %v", d, got, e, l)
		}
		if got, e := x.Hits(0); e != api.OK || got != len(d) {
			t.Errorf("separators of %v: %d, %v", d, got, e)
		}
	}
}

// many returns count documents with texts of n bytes.
func many(count, n int) []api.Doc {
	d := make([]api.Doc, count)
	for i := range d {
		d[i] = api.Doc{ID: string(rune('0'+i/10)) + string(rune('0'+i%10)), Text: strings.Repeat(string(rune('a'+i%3)), n)}
	}
	return d
}

// P8.1: the limits, on both sides, and the order of the errors.
func TestLimits(t *testing.T) {
	full := many(api.MaxDocs, api.MaxTotal/api.MaxDocs)
	checkSegment(t, build(t, full), full)
	long := many(api.MaxTotal/api.MaxDoc, api.MaxDoc)
	checkSegment(t, build(t, long), long)
	over := slices.Clone(full)
	over[63].Text += "a"
	tooLong := []api.Doc{{ID: "a", Text: strings.Repeat("a", api.MaxDoc+1)}}
	unordered := many(api.MaxDocs+1, 0)
	unordered[64].ID = "00"
	for _, c := range []struct {
		d []api.Doc
		e api.Errno
	}{
		{[]api.Doc{{ID: ""}}, api.ErrForm},
		{[]api.Doc{{ID: strings.Repeat("a", api.MaxName+1)}}, api.ErrForm},
		{[]api.Doc{{ID: "a"}, {ID: "a"}}, api.ErrForm},
		{[]api.Doc{{ID: "b"}, {ID: "a"}}, api.ErrForm},
		{[]api.Doc{{ID: "\xff"}, {ID: "a"}}, api.ErrForm},
		{[]api.Doc{{ID: "aa"}, {ID: "a"}}, api.ErrForm},
		{[]api.Doc{{ID: "b", Text: tooLong[0].Text}, {ID: "a"}}, api.ErrForm},
		{unordered, api.ErrForm},
		{many(api.MaxDocs+1, 0), api.ErrLimit},
		{over, api.ErrLimit},
		{tooLong, api.ErrLimit},
	} {
		if s, e := segment.New(c.d...); s != nil || e != c.e {
			t.Errorf("New of %d documents: %v, %v, not %v", len(c.d), s, e, c.e)
		}
	}
}

// P8.2: what Doc and Search refuse.
func TestErrors(t *testing.T) {
	for _, d := range lists {
		s := build(t, d)
		for _, id := range []string{"", "aaa", "\x00\x00", strings.Repeat("z", 65), "zz"} {
			if text, e := s.Doc(id); text != "" || e != api.ErrNone {
				t.Errorf("Doc(%q): %q, %v", id, text, e)
			}
		}
		if l, e := s.Search(""); len(l) != 0 || e != api.ErrEmpty {
			t.Errorf("an empty pattern: %v, %v", l, e)
		}
		if l, e := s.Search(strings.Repeat("x", api.MaxPattern+1)); len(l) != 0 || e != api.ErrLimit {
			t.Errorf("a long pattern: %v, %v", l, e)
		}
	}
}

// R2: arguments are not kept, results are new.
func TestMemory(t *testing.T) {
	d := slices.Clone(lists[3])
	s := build(t, d)
	d[1].Text = "other"
	got := s.Docs()
	got[0].ID = "other"
	_ = append(got[:1], api.Doc{})
	hits, _ := s.Search("ab")
	hits[0].ID = "other"
	checkSegment(t, s, lists[3])
}
