package shelf_test

import (
	"slices"
	"strings"
	"testing"

	"lectern/api"
	"lectern/shelf"
)

// plain is a list of documents that answers as a shelf must.
type plain map[string]string

func (p plain) docs() []api.Doc {
	var l []api.Doc
	for id, text := range p {
		l = append(l, api.Doc{ID: id, Text: text})
	}
	slices.SortFunc(l, func(a, b api.Doc) int { return strings.Compare(a.ID, b.ID) })
	return l
}

func (p plain) bytes() int {
	n := 0
	for _, text := range p {
		n += len(text)
	}
	return n
}

func (p plain) add(d api.Doc) api.Errno {
	_, there := p[d.ID]
	switch {
	case d.ID == "" || len(d.ID) > api.MaxName:
		return api.ErrForm
	case len(d.Text) > api.MaxDoc:
		return api.ErrLimit
	case there:
		return api.ErrThere
	case len(p) == api.MaxDocs || p.bytes()+len(d.Text) > api.MaxTotal:
		return api.ErrFull
	}
	p[d.ID] = d.Text
	return api.OK
}

func (p plain) delete(id string) api.Errno {
	_, there := p[id]
	switch {
	case id == "" || len(id) > api.MaxName:
		return api.ErrForm
	case !there:
		return api.ErrNone
	}
	delete(p, id)
	return api.OK
}

func (p plain) search(w string) []api.Hit {
	var l []api.Hit
	for _, d := range p.docs() {
		for at := 0; at+len(w) <= len(d.Text); at++ {
			if d.Text[at:at+len(w)] == w {
				l = append(l, api.Hit{ID: d.ID, At: at})
			}
		}
	}
	return l
}

func compare(t *testing.T, s *shelf.Shelf, p plain) {
	t.Helper()
	if got := s.Docs(); !slices.Equal(got, p.docs()) {
		t.Fatalf("Docs: %v, not %v", got, p.docs())
	}
	for _, w := range []string{"a", "ab", "aba", "\x00", "not there", strings.Repeat("a", api.MaxPattern)} {
		want := p.search(w)
		for _, limit := range []int{2, api.MaxHits} {
			l, n, e := s.Search(w, limit)
			if e != api.OK || n != len(want) || !slices.Equal(l, want[:min(limit, len(want))]) {
				t.Fatalf("Search(%.9q, %d): %v, %d, %v, not %v", w, limit, l, n, e, want)
			}
		}
	}
}

type chance uint64

func (c *chance) below(n int) int {
	*c = *c*6364136223846793005 + 1442695040888963407
	return int(*c >> 33 % chance(n))
}

func (c *chance) text() string {
	n := []int{0, 1, 5, 30, 300, api.MaxDoc, api.MaxDoc + 1}[c.below(7)]
	return strings.Repeat([]string{"ab", "aab", "\x00a", "b"}[c.below(4)], n)[:n]
}

func (c *chance) name() string {
	if c.below(20) == 0 {
		return []string{"", strings.Repeat("n", api.MaxName), strings.Repeat("n", api.MaxName+1)}[c.below(3)]
	}
	return string(rune('A'+c.below(26))) + []string{"", "a", "\x00", "\xff"}[c.below(4)]
}

// P13.1 to P13.4: a long time, with seals and tidying at chance.
func TestAgainstPlainList(t *testing.T) {
	for seed := range 6 {
		c := chance(seed)
		s, e := shelf.New()
		if e != api.OK {
			t.Fatalf("New: %v", e)
		}
		p := plain{}
		for step := range 250 {
			switch k := c.below(10); {
			case k < 5:
				d := api.Doc{ID: c.name(), Text: c.text()}
				if got, want := s.Add(d), p.add(d); got != want {
					t.Fatalf("seed %d, step %d: Add(%q, %d bytes): %v, not %v", seed, step, d.ID, len(d.Text), got, want)
				}
			case k < 8:
				id := c.name()
				if docs := p.docs(); len(docs) > 0 && c.below(3) > 0 {
					id = docs[c.below(len(docs))].ID
				}
				if got, want := s.Delete(id), p.delete(id); got != want {
					t.Fatalf("seed %d, step %d: Delete(%q): %v, not %v", seed, step, id, got, want)
				}
			case k < 9:
				s.Seal()
			default:
				s.Tidy()
			}
			if step%25 == 0 {
				compare(t, s, p)
			}
		}
		compare(t, s, p)
	}
}

// The chapter's example.
func TestExample(t *testing.T) {
	s, _ := shelf.New()
	a := s.Add(api.Doc{ID: "a", Text: "xx"})
	s.Seal()
	b := s.Delete("a")
	if l, n, e := s.Search("x", 1); len(l) != 0 || n != 0 || a != api.OK || b != api.OK || e != api.OK {
		t.Errorf("%v, %d: %v, %v, %v", l, n, a, b, e)
	}
}

// many returns count documents with texts of n bytes.
func many(count, n int) []api.Doc {
	d := make([]api.Doc, count)
	for i := range d {
		d[i] = api.Doc{ID: string(rune('0'+i/10)) + string(rune('0'+i%10)), Text: strings.Repeat("x", n)}
	}
	return d
}

// P13.1: New takes what segment.New takes.
func TestNew(t *testing.T) {
	for _, c := range []struct {
		d []api.Doc
		e api.Errno
	}{
		{nil, api.OK},
		{many(api.MaxDocs, api.MaxTotal/api.MaxDocs), api.OK},
		{many(api.MaxTotal/api.MaxDoc, api.MaxDoc), api.OK},
		{many(api.MaxTotal/api.MaxDoc+1, api.MaxDoc), api.ErrLimit},
		{many(api.MaxDocs+1, 0), api.ErrLimit},
		{many(1, api.MaxDoc+1), api.ErrLimit},
		{[]api.Doc{{ID: ""}}, api.ErrForm},
		{[]api.Doc{{ID: strings.Repeat("n", 65)}}, api.ErrForm},
		{[]api.Doc{{ID: "b"}, {ID: "a", Text: strings.Repeat("x", api.MaxDoc+1)}}, api.ErrForm},
		{[]api.Doc{{ID: "a"}, {ID: "a"}}, api.ErrForm},
	} {
		s, e := shelf.New(c.d...)
		if e != c.e || (s == nil) != (e != api.OK) {
			t.Errorf("New of %d documents: %v, %v, not %v", len(c.d), s, e, c.e)
		}
		if s != nil && !slices.Equal(s.Docs(), c.d) {
			t.Errorf("New of %d documents: Docs has %d", len(c.d), len(s.Docs()))
		}
	}
}

// P13.1: the order of the errors of Add and Delete; how full a shelf may be.
func TestFull(t *testing.T) {
	for _, sealed := range []bool{false, true} {
		s, _ := shelf.New(many(api.MaxDocs-1, 10)...)
		p := plain{}
		for _, d := range many(api.MaxDocs-1, 10) {
			p[d.ID] = d.Text
		}
		for _, d := range []api.Doc{
			{ID: "last"},
			{ID: "", Text: strings.Repeat("x", api.MaxDoc+1)},
			{ID: "00", Text: strings.Repeat("x", api.MaxDoc+1)},
			{ID: "00"},
			{ID: "last"},
			{ID: "more"},
			{ID: strings.Repeat("n", 65)},
		} {
			if got, want := s.Add(d), p.add(d); got != want {
				t.Errorf("Add(%q): %v, not %v", d.ID, got, want)
			}
			if sealed {
				s.Seal()
			}
		}
		compare(t, s, p)
	}
	s, _ := shelf.New(many(7, api.MaxDoc)...)
	if e := s.Add(api.Doc{ID: "8", Text: strings.Repeat("y", api.MaxDoc)}); e != api.OK {
		t.Errorf("as much as there is room for: %v", e)
	}
	if e := s.Add(api.Doc{ID: "9", Text: "y"}); e != api.ErrFull {
		t.Errorf("a byte more: %v", e)
	}
	if e := s.Add(api.Doc{ID: "9"}); e != api.OK {
		t.Errorf("no byte more: %v", e)
	}
	for _, id := range []string{"", strings.Repeat("n", 65)} {
		if e := s.Delete(id); e != api.ErrForm {
			t.Errorf("Delete(%q): %v", id, e)
		}
	}
	if e := s.Delete(strings.Repeat("n", 64)); e != api.ErrNone {
		t.Errorf("Delete of nothing: %v", e)
	}
}

// P13.2: what Search refuses, and in which order.
func TestSearchErrors(t *testing.T) {
	s, _ := shelf.New(many(3, 3)...)
	long := strings.Repeat("x", api.MaxPattern+1)
	for _, c := range []struct {
		p     string
		limit int
		e     api.Errno
	}{
		{"", 1, api.ErrEmpty},
		{"", 0, api.ErrEmpty},
		{"", api.MaxHits + 1, api.ErrEmpty},
		{long, 1, api.ErrLimit},
		{"x", 0, api.ErrLimit},
		{"x", -1, api.ErrLimit},
		{"x", -1 << 63, api.ErrLimit},
		{"x", api.MaxHits + 1, api.ErrLimit},
		{"x", 1<<63 - 1, api.ErrLimit},
		{long[1:], api.MaxHits, api.OK},
		{long[1:], 1, api.OK},
	} {
		if l, n, e := s.Search(c.p, c.limit); len(l) != 0 || n != 0 || e != c.e {
			t.Errorf("Search(%.5q, %d): %v, %d, %v, not %v", c.p, c.limit, l, n, e, c.e)
		}
	}
}

// P13.2: more hits than the greatest limit.
func TestManyHits(t *testing.T) {
	s, _ := shelf.New(many(8, 200)...)
	s.Delete("00")
	l, n, e := s.Search("x", api.MaxHits)
	if e != api.OK || n != 1400 || len(l) != api.MaxHits || l[0] != (api.Hit{ID: "01"}) || l[999] != (api.Hit{ID: "05", At: 199}) {
		t.Errorf("%d hits of %d, %v", len(l), n, e)
	}
}

// P13.3: a document that is deleted and added again stands where it did, whatever was sealed.
func TestAgain(t *testing.T) {
	s, _ := shelf.New()
	p := plain{}
	for i := range 40 {
		d := api.Doc{ID: "a", Text: strings.Repeat("ab", i)}
		if e := s.Add(d); e != p.add(d) {
			t.Fatalf("Add: %v", e)
		}
		s.Seal()
		d = api.Doc{ID: string(rune('b' + i%20)), Text: "aba"}
		if e := s.Add(d); e != p.add(d) {
			t.Fatalf("Add: %v", e)
		}
		if i%3 == 0 {
			s.Seal()
		}
		s.Tidy()
		compare(t, s, p)
		if e := s.Delete("a"); e != p.delete("a") {
			t.Fatalf("Delete: %v", e)
		}
		if e := s.Delete("a"); e != p.delete("a") {
			t.Fatalf("Delete again: %v", e)
		}
	}
}

// R2: arguments are not kept, results are new.
func TestMemory(t *testing.T) {
	d := many(3, 3)
	s, _ := shelf.New(d...)
	s.Add(api.Doc{ID: "z", Text: "xx"})
	want := s.Docs()
	d[0].ID = "other"
	got := s.Docs()
	got[1].ID = "other"
	_ = append(got[:2], api.Doc{})
	l, _, _ := s.Search("x", 5)
	l[0].ID = "other"
	if !slices.Equal(s.Docs(), want) {
		t.Errorf("%v", s.Docs())
	}
	if l, _, _ := s.Search("x", 5); l[0].ID != "00" {
		t.Errorf("%v", l)
	}
}
