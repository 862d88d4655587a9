package wal_test

import (
	"fmt"
	"slices"
	"strings"
	"testing"

	"lectern/api"
	"lectern/disk"
	"lectern/sum"
	"lectern/wal"
)

const (
	end     = 1 << 40
	maxBase = end - 2048
)

// same holds two values against each other; a nil list is an empty one.
func same(a, b any) bool {
	return show(a) == show(b)
}

// show tells numbers as numbers, and texts so that none looks like two.
func show(a any) string {
	return fmt.Sprintf("%+v %+q", a, a)
}

func sameLog(a, b api.Log) bool {
	return a.Base == b.Base && a.BaseTerm == b.BaseTerm && slices.Equal(a.Entries, b.Entries)
}

func brief(l api.Log) string {
	s := fmt.Sprintf("%d/%d:", l.Base, l.BaseTerm)
	for _, e := range l.Entries {
		s += fmt.Sprintf(" %d/%d:%d", e.Index, e.Term, len(e.Data))
	}
	return s
}

func newDisk(t *testing.T, files []api.File) *disk.Disk {
	t.Helper()
	d, e := disk.New(files)
	if e != api.OK {
		t.Fatalf("disk.New: %v", e)
	}
	return d
}

func open(t *testing.T, d *disk.Disk) *wal.Wal {
	t.Helper()
	w, e := wal.Open(d)
	if e != api.OK || w == nil {
		t.Fatalf("Open: %v, %v", w, e)
	}
	return w
}

func must(t *testing.T, what string, e api.Errno) {
	t.Helper()
	if e != api.OK {
		t.Fatalf("%s: %v", what, e)
	}
}

// list returns entries from an index on, with these terms.
func list(from int, terms ...int) []api.Entry {
	var l []api.Entry
	for i, term := range terms {
		l = append(l, api.Entry{Index: from + i, Term: term, Data: fmt.Sprintf("data of %d/%d", from+i, term)})
	}
	return l
}

// check holds the log against what it must be, on this disk and opened anew.
func check(t *testing.T, w *wal.Wal, d *disk.Disk, want api.Log) {
	t.Helper()
	if got := w.Log(); !sameLog(got, want) {
		t.Fatalf("Log: %s, not %s", brief(got), brief(want))
	}
	if got := open(t, d).Log(); !sameLog(got, want) {
		t.Fatalf("opened anew: %s, not %s", brief(got), brief(want))
	}
}

// P19.1: what Open refuses, and an empty disk.
func TestOpen(t *testing.T) {
	if w, e := wal.Open(nil); w != nil || e != api.ErrForm {
		t.Errorf("Open(nil): %v, %v", w, e)
	}
	d := newDisk(t, nil)
	check(t, open(t, d), d, api.Log{})
	d.Off(0)
	if w, e := wal.Open(d); w != nil || e != api.ErrPower {
		t.Errorf("without power: %v, %v", w, e)
	}
}

// P19.1, P19.2: what is appended, cut and dropped, and what is refused on the way.
func TestCalls(t *testing.T) {
	d := newDisk(t, nil)
	w := open(t, d)
	want := api.Log{Entries: list(1, 1, 1, 2, 5)}
	must(t, "Append", w.Append(want.Entries[:3]))
	must(t, "Append", w.Append(want.Entries[3:]))
	must(t, "Append of nothing", w.Append(nil))
	check(t, w, d, want)
	refused := func(what string, got, e api.Errno) {
		t.Helper()
		if got != e || !sameLog(w.Log(), want) {
			t.Errorf("%s: %v, not %v", what, got, e)
		}
	}
	long := strings.Repeat("x", api.MaxEntry+1)
	refused("an entry again", w.Append(list(4, 5)), api.ErrForm)
	refused("a gap", w.Append(list(6, 5)), api.ErrForm)
	refused("an older term", w.Append(list(5, 4)), api.ErrForm)
	refused("falling terms", w.Append(list(5, 7, 6)), api.ErrForm)
	refused("a gap inside", w.Append(append(list(5, 6), list(7, 6)...)), api.ErrForm)
	refused("a negative term", w.Append(list(5, -1)), api.ErrForm)
	refused("a great term", w.Append(list(5, end)), api.ErrForm)
	refused("long data", w.Append([]api.Entry{{Index: 5, Term: 5, Data: long}}), api.ErrForm)
	refused("many entries, one bad", w.Append(append(list(5, make([]int, 600)...), api.Entry{})), api.ErrForm)
	refused("Cut(-1)", w.Cut(-1), api.ErrForm)
	refused("Cut(5)", w.Cut(5), api.ErrForm)
	refused("Drop(0)", w.Drop(0, 0), api.ErrForm)
	refused("Drop(-1)", w.Drop(-1, 0), api.ErrForm)
	refused("Drop(2, 2)", w.Drop(2, 2), api.ErrForm)
	refused("Drop(4, 6)", w.Drop(4, 6), api.ErrForm)
	refused("Drop(5, -1)", w.Drop(5, -1), api.ErrForm)
	refused("Drop(5, end)", w.Drop(5, end), api.ErrForm)
	refused("Drop above the limit", w.Drop(maxBase+1, 9), api.ErrForm)
	must(t, "Cut(4)", w.Cut(4))
	check(t, w, d, want)
	must(t, "Cut(3)", w.Cut(3))
	want.Entries = want.Entries[:3]
	check(t, w, d, want)
	must(t, "Drop(2, 1)", w.Drop(2, 1))
	want = api.Log{Base: 2, BaseTerm: 1, Entries: want.Entries[2:]}
	check(t, w, d, want)
	refused("Drop(2, 1) again", w.Drop(2, 1), api.ErrForm)
	refused("Drop of an older term", w.Drop(9, 0), api.ErrForm)
	refused("Cut(1)", w.Cut(1), api.ErrForm)
	must(t, "Cut(2)", w.Cut(2))
	want.Entries = nil
	check(t, w, d, want)
	must(t, "Append", w.Append(list(3, 4)))
	must(t, "Drop(3, 4)", w.Drop(3, 4))
	want = api.Log{Base: 3, BaseTerm: 4}
	check(t, w, d, want)
	must(t, "Drop(maxBase)", w.Drop(maxBase, end-1))
	want = api.Log{Base: maxBase, BaseTerm: end - 1}
	refused("an older term", w.Append(list(maxBase+1, end-2)), api.ErrForm)
	refused("Drop again", w.Drop(maxBase+1, end-1), api.ErrForm)
	want.Entries = list(maxBase+1, end-1)
	must(t, "Append", w.Append(want.Entries))
	check(t, w, d, want)
}

// P19.2: above the last Index any Term that is not below BaseTerm is taken.
func TestDropAll(t *testing.T) {
	d := newDisk(t, nil)
	w := open(t, d)
	must(t, "Append", w.Append(list(1, 3, 3)))
	must(t, "Drop(7, 0)", w.Drop(7, 0))
	check(t, w, d, api.Log{Base: 7})
	must(t, "Append", w.Append(list(8, 0)))
	check(t, w, d, api.Log{Base: 7, Entries: list(8, 0)})
}

// P19.2: as many entries as there may be, of the greatest size; then one more.
func TestFull(t *testing.T) {
	for _, at := range []int{1, 10, api.MaxEntries} {
		d := newDisk(t, nil)
		w := open(t, d)
		var all []api.Entry
		for i := range api.MaxEntries {
			all = append(all, api.Entry{Index: i + 1, Term: 7, Data: strings.Repeat(string(rune('a'+i%26)), api.MaxEntry)})
		}
		for rest := all; len(rest) > 0; rest = rest[min(at, len(rest)):] {
			must(t, "Append", w.Append(rest[:min(at, len(rest))]))
		}
		if e := w.Append(list(513, 7)); e != api.ErrFull {
			t.Errorf("one more: %v", e)
		}
		if e := w.Append(list(513, 6)); e != api.ErrForm {
			t.Errorf("one more, of an older term: %v", e)
		}
		must(t, "Append of nothing", w.Append(nil))
		must(t, "Sync", w.Sync())
		check(t, w, newDisk(t, d.Crash(nil)), api.Log{Entries: all})
		must(t, "Drop", w.Drop(500, 7))
		if e := w.Append(list(513, slices.Repeat([]int{7}, 501)...)); e != api.ErrFull {
			t.Errorf("501 entries behind 12: %v", e)
		}
		more := list(513, slices.Repeat([]int{7}, 500)...)
		must(t, "500 entries behind 12", w.Append(more))
		check(t, w, d, api.Log{Base: 500, BaseTerm: 7, Entries: append(slices.Clone(all[500:]), more...)})
	}
}

// step is a call of a log.
type step struct {
	kind    int // 0: Append, 1: Cut, 2: Drop, 3: Sync
	entries []api.Entry
	i, term int
}

func (s step) do(w *wal.Wal) api.Errno {
	switch s.kind {
	case 0:
		return w.Append(s.entries)
	case 1:
		return w.Cut(s.i)
	case 2:
		return w.Drop(s.i, s.term)
	}
	return w.Sync()
}

// plain returns the log after a step, which is valid.
func (s step) plain(l api.Log) api.Log {
	out := api.Log{Base: l.Base, BaseTerm: l.BaseTerm}
	if s.kind == 2 {
		out = api.Log{Base: s.i, BaseTerm: s.term}
	}
	for _, e := range append(slices.Clone(l.Entries), s.entries...) {
		if e.Index > out.Base && (s.kind != 1 || e.Index <= s.i) {
			out.Entries = append(out.Entries, e)
		}
	}
	return out
}

type chance uint64

func (c *chance) below(n int) int {
	*c = *c*6364136223846793005 + 1442695040888963407
	return int(*c >> 33 % chance(n))
}

// noughts looks like zeros to a checksum: what it begins with is the polynomial.
func noughts(n int) string {
	return strings.Repeat("\x41\x06\x71\xdb\x01"+strings.Repeat("\x00", 27), n/32+1)[:n]
}

func (c *chance) data() string {
	n := []int{0, 1, 9, 40, 41, 100, 200, 333}[c.below(8)]
	switch c.below(4) {
	case 0:
		return noughts(n)
	case 1:
		return strings.Repeat("\x00", n)
	case 2:
		return strings.Repeat("\x01\x02", n)[:n]
	}
	return strings.Repeat(string(rune('a'+c.below(26))), n)
}

func last(l api.Log) (int, int) {
	if n := len(l.Entries); n > 0 {
		return l.Entries[n-1].Index, l.Entries[n-1].Term
	}
	return l.Base, l.BaseTerm
}

// step returns a valid call of a log.
func (c *chance) step(l api.Log) step {
	index, term := last(l)
	switch k := c.below(10); {
	case k < 5 && len(l.Entries) < 300:
		var es []api.Entry
		for range 1 + c.below(5) {
			index++
			term += c.below(2)
			es = append(es, api.Entry{Index: index, Term: term, Data: c.data()})
		}
		return step{kind: 0, entries: es}
	case k < 7:
		return step{kind: 1, i: max(l.Base, index-c.below(6))}
	case k < 8:
		i := l.Base + 1 + c.below(3)
		if i > index {
			return step{kind: 2, i: i, term: l.BaseTerm + c.below(3)}
		}
		return step{kind: 2, i: i, term: l.Entries[i-l.Base-1].Term}
	}
	return step{kind: 3}
}

// P19.1, P19.2, P19.4: a long time, opened anew now and then.
func TestAgainstPlainLog(t *testing.T) {
	for seed := range 8 {
		c := chance(seed)
		d := newDisk(t, nil)
		w, l := open(t, d), api.Log{}
		for n := range 300 {
			s := c.step(l)
			if e := s.do(w); e != api.OK {
				t.Fatalf("seed %d, step %d: %+v: %v", seed, n, s, e)
			}
			l = s.plain(l)
			if !sameLog(w.Log(), l) {
				t.Fatalf("seed %d, step %d: %s, not %s", seed, n, brief(w.Log()), brief(l))
			}
			if c.below(20) == 0 {
				w = open(t, d)
				if !sameLog(w.Log(), l) {
					t.Fatalf("seed %d, step %d, opened anew: %s, not %s", seed, n, brief(w.Log()), brief(l))
				}
			}
		}
	}
}

// run makes the steps until the disk fails. It returns the logs that may be found after a crash.
func run(t *testing.T, w *wal.Wal, steps []step) []api.Log {
	t.Helper()
	l := w.Log()
	allowed := []api.Log{l}
	for n, s := range steps {
		e := s.do(w)
		next := s.plain(l)
		if e == api.OK && s.kind == 3 {
			allowed = nil
		}
		if e != api.OK {
			if e != api.ErrPower || !sameLog(w.Log(), l) {
				t.Fatalf("step %d: %v, %s, not %s", n, e, brief(w.Log()), brief(l))
			}
			for k := range s.entries {
				allowed = append(allowed, step{entries: s.entries[:k]}.plain(l))
			}
			return append(allowed, next)
		}
		allowed = append(allowed, next)
		l = next
	}
	return allowed
}

func among(l api.Log, allowed []api.Log) bool {
	return slices.ContainsFunc(allowed, func(a api.Log) bool { return sameLog(a, l) })
}

// crashed checks all that may be found on a disk after a crash with these picks, also when the power fails again while the log is opened.
func crashed(t *testing.T, d *disk.Disk, picks []int, allowed []api.Log, what string) {
	t.Helper()
	files := d.Crash(picks)
	first := newDisk(t, files)
	found := open(t, first).Log()
	if !among(found, allowed) {
		t.Fatalf("%s, picks %v: found %s", what, picks, brief(found))
	}
	check(t, open(t, first), first, found)
	for n := 1; ; n++ {
		again := newDisk(t, files)
		again.Off(n)
		w, e := wal.Open(again)
		if e == api.OK {
			// The next step of the same time: what was opened goes on.
			index, term := last(w.Log())
			es := []api.Entry{{Index: index + 1, Term: term, Data: noughts(200)}, {Index: index + 2, Term: term}}
			ok := run(t, w, []step{{kind: 0, entries: es}, {kind: 1, i: index + 1}, {kind: 3}, {kind: 0, entries: es[1:]}})
			for pick := range 12 {
				got := open(t, newDisk(t, again.Crash([]int{pick, pick}))).Log()
				if !among(got, ok) {
					t.Fatalf("%s, picks %v, off at %d, then pick %d: found %s", what, picks, n, pick, brief(got))
				}
			}
			if n > again.Calls() {
				return
			}
			continue
		}
		if w != nil || e != api.ErrPower {
			t.Fatalf("Open: %v, %v", w, e)
		}
		for pick := range 6 {
			if got := open(t, newDisk(t, again.Crash([]int{pick, pick}))).Log(); !among(got, allowed) {
				t.Fatalf("%s, picks %v, Open failed at %d, then pick %d: found %s", what, picks, n, pick, brief(got))
			}
		}
	}
}

// P19.3, P19.4: the power fails at every call of the disk, and every torn write is tried.
func TestCrashes(t *testing.T) {
	for seed := range 40 {
		c := chance(1000 + seed)
		var steps []step
		l := api.Log{}
		for range 3 + c.below(10) {
			s := c.step(l)
			l = s.plain(l)
			steps = append(steps, s)
		}
		for n := 1; ; n++ {
			d := newDisk(t, nil)
			d.Off(n)
			allowed := run(t, open(t, d), steps)
			what := fmt.Sprintf("seed %d, off at %d", seed, n)
			for _, picks := range [][]int{nil, {1, 1, 1}, {c.below(99), c.below(99)}} {
				crashed(t, d, picks, allowed, what)
			}
			for m := range 30 {
				found := open(t, newDisk(t, d.Crash([]int{2 + 3*m, 2 + 3*m, 2 + 3*m}))).Log()
				if !among(found, allowed) {
					t.Fatalf("%s, %d sectors: found %s of %d logs", what, m, brief(found), len(allowed))
				}
			}
			if d.Calls() < n {
				break
			}
		}
	}
}

// P19.4: a log that is written anew in between, because much of it is gone, or great.
func TestCrashesOfGreatLogs(t *testing.T) {
	var steps []step
	l := api.Log{}
	do := func(s step) {
		steps = append(steps, s)
		l = s.plain(l)
	}
	big := func(n int) step {
		var es []api.Entry
		index, term := last(l)
		for i := range n {
			es = append(es, api.Entry{Index: index + 1 + i, Term: term, Data: strings.Repeat(string(rune('a'+i%26)), api.MaxEntry)})
		}
		return step{kind: 0, entries: es}
	}
	do(big(30))
	do(step{kind: 3})
	do(step{kind: 1, i: 5})
	do(big(30))
	do(step{kind: 2, i: 33, term: 0})
	do(big(40))
	do(step{kind: 1, i: 34})
	do(step{kind: 3})
	do(big(300))
	do(big(150))
	do(step{kind: 2, i: 300, term: 0})
	do(step{kind: 1, i: 301})
	do(big(2))
	do(step{kind: 3})
	do(big(1))
	for n := 1; ; n++ {
		d := newDisk(t, nil)
		d.Off(n)
		allowed := run(t, open(t, d), steps)
		for _, p := range []int{0, 1, 2, 5, 2 + 3*133, 2 + 3*500, 2 + 3*20000} {
			files := d.Crash([]int{p, p, p, p, p})
			again := newDisk(t, files)
			found := open(t, again).Log()
			if !among(found, allowed) {
				t.Fatalf("off at %d, pick %d: found %s", n, p, brief(found))
			}
			if got := open(t, again).Log(); !sameLog(got, found) {
				t.Fatalf("off at %d, pick %d: opened again %s", n, p, brief(got))
			}
			if p == 5 {
				once := newDisk(t, files)
				goOn(t, open(t, once), once, fmt.Sprintf("off at %d", n))
			}
		}
		if d.Calls() < n {
			break
		}
	}
}

// goOn fills a log and cuts it, until it is written anew, and looks at what is durable then.
func goOn(t *testing.T, w *wal.Wal, d *disk.Disk, what string) {
	t.Helper()
	first, term := last(w.Log())
	l := w.Log()
	for range 3 {
		var es []api.Entry
		for k := range min(40, api.MaxEntries-len(l.Entries)) {
			es = append(es, api.Entry{Index: first + 1 + k, Term: term, Data: strings.Repeat("z", api.MaxEntry-k)})
		}
		for _, s := range []step{{kind: 0, entries: es}, {kind: 1, i: first}, {kind: 0, entries: es[:len(es)/2]}, {kind: 3}, {kind: 1, i: first}} {
			if e := s.do(w); e != api.OK {
				t.Fatalf("%s: went on: %v", what, e)
			}
			before := l
			l = s.plain(l)
			if s.kind != 3 {
				continue
			}
			if got := open(t, newDisk(t, d.Crash(nil))).Log(); !sameLog(got, before) {
				t.Fatalf("%s: went on to %s, not %s", what, brief(got), brief(before))
			}
		}
	}
}

// R1: whatever stands in the files, nothing panics.
func TestGarbage(t *testing.T) {
	c := chance(77)
	d := newDisk(t, nil)
	w, l := open(t, d), api.Log{}
	for range 60 {
		s := c.step(l)
		must(t, "a step", s.do(w))
		l = s.plain(l)
	}
	must(t, "Sync", w.Sync())
	for range 3000 {
		files := d.Crash(nil)
		for i := range files {
			b := files[i].Data
			for range c.below(6) {
				if len(b) > 0 {
					b[c.below(len(b))] = byte(c.below(256))
				}
			}
			if c.below(4) == 0 {
				b = b[:c.below(len(b)+1)]
			}
			files[i].Data = b
		}
		again := newDisk(t, files)
		if w, e := wal.Open(again); e == api.OK {
			index, term := last(w.Log())
			w.Append([]api.Entry{{Index: index + 1, Term: term}})
			w.Sync()
		}
	}
}

// P19.4: a checksum does not see that such data are gone, but the log must.
func TestChecksumsAlone(t *testing.T) {
	if sum.Sum(0, []byte(noughts(64))...) != sum.Sum(0, make([]byte, 64)...) {
		t.Fatalf("a checksum sees it")
	}
	for _, kept := range []string{"", "first", noughts(100)} {
		for _, n := range []int{32, 64, 96, 320, 1000, api.MaxEntry} {
			for shift := range 32 {
				d := newDisk(t, nil)
				w := open(t, d)
				must(t, "Append", w.Append([]api.Entry{{Index: 1, Data: kept}}))
				must(t, "Sync", w.Sync())
				data := (strings.Repeat("\x00", shift) + noughts(n))[:n]
				must(t, "Append", w.Append([]api.Entry{{Index: 2, Data: data}}))
				allowed := []api.Log{{Entries: []api.Entry{{Index: 1, Data: kept}}}, w.Log()}
				for m := 0; m < 40; m++ {
					if got := open(t, newDisk(t, d.Crash([]int{2 + 3*m, 2 + 3*m}))).Log(); !among(got, allowed) {
						t.Fatalf("%d bytes, shift %d, %d sectors: found %s", n, shift, m, brief(got))
					}
				}
			}
		}
	}
}

// P19.4: what was cut does not come back behind what is written in its place.
func TestCutAndWriteAgain(t *testing.T) {
	for _, size := range []int{0, 8, 9, 39, 40, 100} {
		d := newDisk(t, nil)
		w := open(t, d)
		old := []api.Entry{{Index: 1}, {Index: 2, Data: strings.Repeat("a", size)}, {Index: 3, Data: strings.Repeat("b", size)}, {Index: 4, Data: "c"}}
		must(t, "Append", w.Append(old))
		must(t, "Sync", w.Sync())
		steps := []step{{kind: 1, i: 1}, {kind: 0, entries: []api.Entry{{Index: 2, Data: strings.Repeat("x", size)}}}, {kind: 0, entries: []api.Entry{{Index: 3, Data: "y"}}}}
		allowed := run(t, w, steps)
		for m := range 60 {
			crashed(t, d, []int{2 + 3*m, 2 + 3*m}, allowed, fmt.Sprintf("%d bytes", size))
		}
	}
}

// P19.3: what was synced is there after every crash; after an error nothing works.
func TestAfterErrors(t *testing.T) {
	methods := []func(w *wal.Wal) api.Errno{
		func(w *wal.Wal) api.Errno { return w.Append(list(3, 1)) },
		func(w *wal.Wal) api.Errno { return w.Append(list(9, 1)) },
		func(w *wal.Wal) api.Errno { return w.Cut(1) },
		func(w *wal.Wal) api.Errno { return w.Cut(-1) },
		func(w *wal.Wal) api.Errno { return w.Drop(1, 1) },
		func(w *wal.Wal) api.Errno { return w.Drop(1, 9) },
		func(w *wal.Wal) api.Errno { return w.Sync() },
	}
	for _, k := range []int{0, 2, 4, 6} {
		d := newDisk(t, nil)
		w := open(t, d)
		must(t, "Append", w.Append(list(1, 1, 1)))
		must(t, "Sync", w.Sync())
		d.Off(0)
		first := methods[k](w)
		if first == api.OK && k == 6 {
			// Nothing was to be made durable.
			continue
		}
		if first != api.ErrPower {
			t.Errorf("method %d: %v", k, first)
		}
		for i, f := range methods {
			if e := f(w); e != api.ErrPower {
				t.Errorf("method %d after %d: %v", i, k, e)
			}
			if !sameLog(w.Log(), api.Log{Entries: list(1, 1, 1)}) {
				t.Errorf("method %d after %d: %s", i, k, brief(w.Log()))
			}
		}
		for pick := range 9 {
			d := newDisk(t, d.Crash([]int{pick, pick}))
			check(t, open(t, d), d, api.Log{Entries: list(1, 1, 1)})
		}
	}
}

// P19.2: an error of the disk that is not one of power is told, and nothing works after it.
func TestNoRoom(t *testing.T) {
	var others []api.File
	for i := range api.MaxFiles {
		others = append(others, api.File{Name: fmt.Sprintf("other-%02d", i), Data: []byte("kept")})
	}
	w, e := wal.Open(newDisk(t, others))
	if e == api.ErrFull && w == nil {
		return
	}
	if e != api.OK {
		t.Fatalf("Open: %v, %v", w, e)
	}
	if e := w.Append(list(1, 1)); e != api.ErrFull {
		t.Errorf("Append: %v", e)
	}
	for i, e := range []api.Errno{w.Append(list(1, 1)), w.Sync(), w.Cut(0), w.Cut(-1), w.Drop(1, 1), w.Append(nil)} {
		if e != api.ErrPower || len(w.Log().Entries) != 0 {
			t.Errorf("call %d after it: %v", i, e)
		}
	}
}

// The names of a log's files begin with "wal"; other files stay as they are.
func TestFiles(t *testing.T) {
	others := []api.File{{Name: "other", Data: []byte("kept")}, {Name: "snap", Data: []byte("kept")}, {Name: "w", Data: []byte("kept")}}
	d := newDisk(t, others)
	w := open(t, d)
	must(t, "Append", w.Append(list(1, 1)))
	must(t, "Sync", w.Sync())
	files := d.Crash(nil)
	files = slices.DeleteFunc(files, func(f api.File) bool { return strings.HasPrefix(f.Name, "wal") })
	if !same(files, others) {
		t.Errorf("%q", files)
	}
}

// The chapter's example.
func TestExample(t *testing.T) {
	for pick := range 30 {
		d := newDisk(t, nil)
		w := open(t, d)
		must(t, "Append", w.Append(list(1, 1)))
		must(t, "Sync", w.Sync())
		must(t, "Append", w.Append(list(2, 1)))
		if got := open(t, newDisk(t, d.Crash([]int{pick}))).Log(); !among(got, []api.Log{{Entries: list(1, 1)}, {Entries: list(1, 1, 1)}}) {
			t.Errorf("pick %d: %s", pick, brief(got))
		}
	}
}

// R2: arguments are not kept, results are new.
func TestMemory(t *testing.T) {
	d := newDisk(t, nil)
	w := open(t, d)
	l := list(1, 1, 1)
	must(t, "Append", w.Append(l))
	l[0].Data = "other"
	got := w.Log()
	got.Entries[1].Data = "other"
	_ = append(got.Entries[:1], api.Entry{})
	check(t, w, d, api.Log{Entries: list(1, 1, 1)})
}
