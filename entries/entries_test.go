package entries_test

import (
	"fmt"
	"slices"
	"strings"
	"testing"

	"lectern/api"
	"lectern/entries"
)

const (
	end     = 1 << 40
	maxBase = end - 2048
)

func sameLog(a, b api.Log) bool {
	return a.Base == b.Base && a.BaseTerm == b.BaseTerm && slices.Equal(a.Entries, b.Entries)
}

func brief(l api.Log) string {
	s := fmt.Sprintf("%d/%d:", l.Base, l.BaseTerm)
	for _, e := range l.Entries {
		s += fmt.Sprintf(" %d/%d", e.Index, e.Term)
	}
	return s
}

// list returns entries from an index on, with these terms.
func list(from int, terms ...int) []api.Entry {
	var l []api.Entry
	for i, term := range terms {
		l = append(l, api.Entry{Index: from + i, Term: term, Data: fmt.Sprintf("%d/%d", from+i, term)})
	}
	return l
}

// logOf returns a log with these terms behind its base.
func logOf(base, baseTerm int, terms ...int) api.Log {
	return api.Log{Base: base, BaseTerm: baseTerm, Entries: list(base+1, terms...)}
}

var longData = strings.Repeat("x", api.MaxEntry)

func full(base, term int) api.Log {
	return logOf(base, term, slices.Repeat([]int{term}, api.MaxEntries)...)
}

func validLogs() []api.Log {
	return []api.Log{
		{},
		{Base: 3},
		{BaseTerm: 2},
		{Base: maxBase, BaseTerm: end - 1},
		logOf(0, 0, 0),
		logOf(0, 0, 1, 1, 2),
		logOf(5, 2, 2, 3, 3, 7),
		logOf(maxBase, end-1, end-1, end-1),
		{Entries: []api.Entry{{Index: 1, Data: longData}}},
		full(0, 4),
		full(maxBase, end-1),
	}
}

func invalidLogs() []api.Log {
	return []api.Log{
		{Base: -1},
		{Base: maxBase + 1},
		{BaseTerm: -1},
		{BaseTerm: end},
		{Entries: list(0, 1)},
		{Entries: list(2, 1)},
		{Entries: list(1, -1)},
		{Entries: list(1, end)},
		{Entries: append(list(1, 1), list(3, 1)...)},
		{Entries: append(list(1, 1), list(1, 1)...)},
		logOf(0, 0, 2, 1),
		logOf(5, 3, 2),
		{Entries: []api.Entry{{Index: 1, Data: longData + "x"}}},
		logOf(0, 0, make([]int, api.MaxEntries+1)...),
	}
}

// P23.1: every function looks at the log first.
func TestCheck(t *testing.T) {
	for _, l := range validLogs() {
		if e := entries.Check(l); e != api.OK {
			t.Errorf("Check of %s: %v", brief(l), e)
		}
	}
	for i, l := range invalidLogs() {
		index, term, b := entries.Last(l)
		at, c := entries.Term(l, -5)
		m1, d := entries.Append(l, nil)
		m2, f := entries.Cut(l, 0)
		s, g := entries.Slice(l, -7, 1)
		m3, miss, h := entries.Merge(l, 0, 0, nil)
		m4, j := entries.Compact(l, 1)
		newer, k := entries.Newer(l, 1<<40, 1<<40)
		for n, e := range []api.Errno{entries.Check(l), b, c, d, f, g, h, j, k} {
			if e != api.ErrForm {
				t.Errorf("log %d, function %d: %v", i, n, e)
			}
		}
		if index+term+at != 0 || miss || newer || len(s) != 0 {
			t.Errorf("log %d: results beside errors", i)
		}
		for _, m := range []api.Log{m1, m2, m3, m4} {
			if !sameLog(m, api.Log{}) {
				t.Errorf("log %d: a log beside an error", i)
			}
		}
	}
}

// P23.1: Last and Term.
func TestLastAndTerm(t *testing.T) {
	for _, l := range validLogs() {
		index, term := l.Base, l.BaseTerm
		for i := 0; ; i++ {
			if got, e := entries.Term(l, index); got != term || e != api.OK {
				t.Fatalf("%s: Term(%d): %d, %v", brief(l), index, got, e)
			}
			if i == len(l.Entries) {
				break
			}
			index, term = l.Entries[i].Index, l.Entries[i].Term
		}
		if i, at, e := entries.Last(l); i != index || at != term || e != api.OK {
			t.Errorf("%s: Last: %d, %d, %v", brief(l), i, at, e)
		}
		for _, i := range []int{l.Base - 1, index + 1, -1 << 63, 1<<63 - 1} {
			if got, e := entries.Term(l, i); got != 0 || e != api.ErrNone {
				t.Errorf("%s: Term(%d): %d, %v", brief(l), i, got, e)
			}
		}
	}
}

// P23.2: Append.
func TestAppend(t *testing.T) {
	l := logOf(5, 2, 2, 3)
	nearly := logOf(0, 1, slices.Repeat([]int{1}, api.MaxEntries-1)...)
	for _, c := range []struct {
		l    api.Log
		es   []api.Entry
		want api.Log
		e    api.Errno
	}{
		{l, nil, l, api.OK},
		{l, list(8, 3), logOf(5, 2, 2, 3, 3), api.OK},
		{l, list(8, 4, end-1), logOf(5, 2, 2, 3, 4, end-1), api.OK},
		{api.Log{Base: 5, BaseTerm: 2}, list(6, 2), logOf(5, 2, 2), api.OK},
		{l, list(7, 3), api.Log{}, api.ErrForm},
		{l, list(9, 3), api.Log{}, api.ErrForm},
		{l, list(8, 2), api.Log{}, api.ErrForm},
		{l, list(8, 4, 3), api.Log{}, api.ErrForm},
		{l, list(8, end), api.Log{}, api.ErrForm},
		{l, []api.Entry{{Index: 8, Term: 3, Data: longData + "x"}}, api.Log{}, api.ErrForm},
		{l, append(list(8, 3), list(10, 3)...), api.Log{}, api.ErrForm},
		{api.Log{Base: 5, BaseTerm: 2}, list(6, 1), api.Log{}, api.ErrForm},
		{nearly, list(512, 1), full(0, 1), api.OK},
		{nearly, list(512, 1, 1), api.Log{}, api.ErrFull},
		{nearly, list(512, 1, 0), api.Log{}, api.ErrForm},
		{api.Log{}, list(1, make([]int, 513)...), api.Log{}, api.ErrFull},
		{full(maxBase, 1), list(maxBase+513, 1), api.Log{}, api.ErrFull},
	} {
		if m, e := entries.Append(c.l, c.es); e != c.e || !sameLog(m, c.want) {
			t.Errorf("Append to %.80s of %d: %.80s, %v, not %v", brief(c.l), len(c.es), brief(m), e, c.e)
		}
	}
}

// P23.2: Cut and Slice, at every place.
func TestCutAndSlice(t *testing.T) {
	for _, l := range validLogs() {
		index := l.Base + len(l.Entries)
		for i := max(l.Base, index-6); i <= index; i++ {
			want := api.Log{Base: l.Base, BaseTerm: l.BaseTerm, Entries: l.Entries[:i-l.Base]}
			if m, e := entries.Cut(l, i); e != api.OK || !sameLog(m, want) {
				t.Errorf("Cut(%d) of %.80s: %v", i, brief(l), e)
			}
			for _, n := range []int{0, 1, 2, 100, 1<<63 - 1} {
				want := l.Entries[i-l.Base:]
				if s, e := entries.Slice(l, i+1, n); e != api.OK || !slices.Equal(s, want[:min(n, len(want))]) {
					t.Errorf("Slice(%d, %d) of %.80s: %d, %v", i+1, n, brief(l), len(s), e)
				}
			}
			if s, e := entries.Slice(l, i+1, -1); len(s) != 0 || e != api.ErrForm {
				t.Errorf("Slice(%d, -1): %v", i+1, e)
			}
		}
		for _, i := range []int{l.Base - 1, index + 1, -1 << 63, 1<<63 - 1} {
			if m, e := entries.Cut(l, i); e != api.ErrForm || !sameLog(m, api.Log{}) {
				t.Errorf("Cut(%d) of %.80s: %v", i, brief(l), e)
			}
		}
		for _, i := range []int{l.Base, l.Base - 1, index + 2, -1 << 63, 1<<63 - 1} {
			for _, n := range []int{-1, 0, 1} {
				if s, e := entries.Slice(l, i, n); e != api.ErrNone || len(s) != 0 {
					t.Errorf("Slice(%d, %d) of %.80s: %v", i, n, brief(l), e)
				}
			}
		}
	}
}

// P23.3: Merge, case by case.
func TestMerge(t *testing.T) {
	l := logOf(0, 0, 1, 1, 2)
	b := logOf(5, 2, 2, 3, 3)
	nearly := logOf(0, 0, make([]int, api.MaxEntries-1)...)
	for i, c := range []struct {
		l          api.Log
		prev, term int
		es         []api.Entry
		want       api.Log
		miss       bool
		e          api.Errno
	}{
		{l, 1, 1, list(2, 3), logOf(0, 0, 1, 3), false, api.OK},
		{l, 3, 2, nil, l, false, api.OK},
		{l, 3, 2, list(4, 2, 4), logOf(0, 0, 1, 1, 2, 2, 4), false, api.OK},
		{l, 0, 0, list(1, 1, 1, 2), l, false, api.OK},
		{l, 0, 0, list(1, 1), l, false, api.OK},
		{l, 0, 0, list(1, 1, 1, 3), logOf(0, 0, 1, 1, 3), false, api.OK},
		{l, 2, 1, list(3, 2, 5), logOf(0, 0, 1, 1, 2, 5), false, api.OK},
		{l, 0, 0, nil, l, false, api.OK},
		// A miss.
		{l, 4, 2, nil, l, true, api.OK},
		{l, 4, 2, list(5, 2), l, true, api.OK},
		{l, end, end - 1, nil, l, true, api.OK},
		{l, 3, 1, list(4, 2), l, true, api.OK},
		{l, 3, 3, nil, l, true, api.OK},
		{l, 0, 1, list(1, 1), l, true, api.OK},
		{b, 5, 1, nil, b, true, api.OK},
		{b, 9, 3, nil, b, true, api.OK},
		// Below the base.
		{b, 0, 0, nil, b, false, api.OK},
		{b, 0, 9, nil, b, false, api.OK},
		{b, 2, 1, list(3, 1, 1), b, false, api.OK},
		{b, 2, 1, list(3, 1, 1, 9), b, false, api.OK},
		{b, 2, 1, list(3, 1, 1, 1, 2, 3, 3, 4), logOf(5, 2, 2, 3, 3, 4), false, api.OK},
		{b, 2, 1, list(3, 1, 1, 1, 4), logOf(5, 2, 4), false, api.OK},
		{b, 2, 1, list(3, 1, 1, 1, 1), api.Log{}, false, api.ErrForm},
		{b, 4, 0, list(5, 0, 0), api.Log{}, false, api.ErrForm},
		// Invalid arguments.
		{l, -1, 0, nil, api.Log{}, false, api.ErrForm},
		{l, end + 1, 0, nil, api.Log{}, false, api.ErrForm},
		{l, 3, -1, nil, api.Log{}, false, api.ErrForm},
		{l, 3, end, nil, api.Log{}, false, api.ErrForm},
		{l, 3, 2, list(3, 2), api.Log{}, false, api.ErrForm},
		{l, 3, 2, list(5, 2), api.Log{}, false, api.ErrForm},
		{l, 3, 2, list(4, 1), api.Log{}, false, api.ErrForm},
		{l, 3, 2, list(4, 4, 3), api.Log{}, false, api.ErrForm},
		{l, 3, 2, list(4, end), api.Log{}, false, api.ErrForm},
		{l, 9, 2, list(9, 2), api.Log{}, false, api.ErrForm},
		{l, end, 2, list(end+1, 2), api.Log{}, false, api.ErrForm},
		{l, 3, 2, []api.Entry{{Index: 4, Term: 2, Data: longData + "x"}}, api.Log{}, false, api.ErrForm},
		// Full.
		{nearly, 511, 0, list(512, 0), logOf(0, 0, make([]int, 512)...), false, api.OK},
		{nearly, 511, 0, list(512, 0, 0), api.Log{}, false, api.ErrFull},
		{nearly, 510, 0, list(511, 1, 1), logOf(0, 0, append(make([]int, 510), 1, 1)...), false, api.OK},
		{nearly, 510, 0, list(511, 1, 1, 1), api.Log{}, false, api.ErrFull},
		{api.Log{Base: 9, BaseTerm: 5}, 8, 0, list(9, make([]int, 514)...), api.Log{}, false, api.ErrFull},
		{api.Log{Base: 9, BaseTerm: 5}, 8, 0, list(9, make([]int, 513)...), api.Log{}, false, api.ErrForm},
	} {
		m, miss, e := entries.Merge(c.l, c.prev, c.term, c.es)
		if !sameLog(m, c.want) || miss != c.miss || e != c.e {
			t.Errorf("case %d: Merge(%.60s, %d, %d, %.60s): %.60s, %v, %v", i, brief(c.l), c.prev, c.term, brief(api.Log{Entries: c.es}), brief(m), miss, e)
		}
		if e != api.OK || miss {
			continue
		}
		if again, miss, e := entries.Merge(m, c.prev, c.term, c.es); !sameLog(again, m) || miss || e != api.OK {
			t.Errorf("case %d, a second time: %.60s, %v, %v", i, brief(again), miss, e)
		}
	}
}

// P23.3: entries that the log has keep their data, by Index and Term alone.
func TestMergeKeeps(t *testing.T) {
	l := logOf(0, 0, 1, 1)
	es := list(1, 1, 1, 1)
	es[0].Data, es[1].Data = "other", "another"
	m, miss, e := entries.Merge(l, 0, 0, es)
	if want := logOf(0, 0, 1, 1, 1); !sameLog(m, want) || miss || e != api.OK {
		t.Errorf("%v, %v, %v", m, miss, e)
	}
}

// P23.4: Compact and Newer.
func TestCompactAndNewer(t *testing.T) {
	for _, l := range validLogs() {
		index, term := l.Base, l.BaseTerm
		for k, entry := range l.Entries {
			index, term = entry.Index, entry.Term
			want := api.Log{Base: index, BaseTerm: term, Entries: l.Entries[k+1:]}
			wantE := api.OK
			if index > maxBase {
				want, wantE = api.Log{}, api.ErrForm
			}
			if m, e := entries.Compact(l, index); e != wantE || !sameLog(m, want) {
				t.Fatalf("Compact(%d) of %.80s: %.80s, %v", index, brief(l), brief(m), e)
			}
		}
		for _, i := range []int{l.Base, l.Base - 1, -1, index + 1, maxBase + 1, -1 << 63, 1<<63 - 1} {
			if m, e := entries.Compact(l, i); e != api.ErrForm || !sameLog(m, api.Log{}) {
				t.Errorf("Compact(%d) of %.80s: %v", i, brief(l), e)
			}
		}
		for _, c := range []struct {
			index, term int
			newer       bool
		}{
			{index, term, true}, {index + 1, term, true}, {index - 1, term, false}, {0, term + 1, true}, {-1 << 63, term + 1, true}, {index + 1, term - 1, false}, {1<<63 - 1, term - 1, false}, {1<<63 - 1, term, true},
		} {
			if newer, e := entries.Newer(l, c.index, c.term); newer != c.newer || e != api.OK {
				t.Errorf("Newer(%.80s, %d, %d): %v, %v", brief(l), c.index, c.term, newer, e)
			}
		}
	}
}

// R2: arguments are neither changed nor kept; results are copies.
func TestMemory(t *testing.T) {
	l, es := logOf(0, 0, 1, 1, 2), list(4, 2, 3)
	l.Entries = append(make([]api.Entry, 0, 20), l.Entries...)
	a, _ := entries.Append(l, es)
	b, _ := entries.Append(l, nil)
	c, _ := entries.Cut(l, 3)
	d, _ := entries.Slice(l, 1, 9)
	f, _, _ := entries.Merge(l, 3, 2, es)
	g, _, _ := entries.Merge(l, 9, 9, nil)
	h, _, _ := entries.Merge(l, 3, 2, nil)
	k, _ := entries.Compact(l, 1)
	for _, m := range [][]api.Entry{a.Entries, b.Entries, c.Entries, d, f.Entries, g.Entries, h.Entries, k.Entries} {
		for i := range m {
			m[i].Data = "other"
		}
		_ = append(m, api.Entry{Index: 99})
	}
	if !sameLog(l, logOf(0, 0, 1, 1, 2)) || !slices.Equal(es, list(4, 2, 3)) || l.Entries[:4][3].Index != 0 {
		t.Errorf("%s, %v", brief(l), es)
	}
}
