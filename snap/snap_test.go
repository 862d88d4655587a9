package snap_test

import (
	"fmt"
	"slices"
	"strings"
	"testing"

	"lectern/api"
	"lectern/disk"
	"lectern/snap"
)

const end = 1 << 40

func newDisk(t *testing.T, files []api.File) *disk.Disk {
	t.Helper()
	d, e := disk.New(files)
	if e != api.OK {
		t.Fatalf("disk.New: %v", e)
	}
	return d
}

func open(t *testing.T, d *disk.Disk) *snap.Store {
	t.Helper()
	s, e := snap.Open(d)
	if e != api.OK || s == nil {
		t.Fatalf("Open: %v, %v", s, e)
	}
	return s
}

// values are all that a store holds.
type values struct {
	term, vote, index, at int
	text                  string
}

func (v values) String() string {
	return fmt.Sprintf("vote %d, %d; snapshot %d, %d, %d bytes", v.term, v.vote, v.index, v.at, len(v.text))
}

func all(s *snap.Store) values {
	var v values
	v.term, v.vote = s.Vote()
	v.index, v.at, v.text = s.Snapshot()
	return v
}

func check(t *testing.T, s *snap.Store, d *disk.Disk, want values) {
	t.Helper()
	if got := all(s); got != want {
		t.Fatalf("%v, not %v", got, want)
	}
	for _, picks := range [][]int{nil, {1, 1, 1}, {2, 2, 2}, {5, 5, 5}, {8, 8, 8}} {
		if got := all(open(t, newDisk(t, d.Crash(picks)))); got != want {
			t.Fatalf("after a crash: %v, not %v", got, want)
		}
	}
	if got := all(open(t, d)); got != want {
		t.Fatalf("opened anew: %v, not %v", got, want)
	}
}

// P20.1: an empty disk, none, one without power.
func TestOpen(t *testing.T) {
	d := newDisk(t, nil)
	check(t, open(t, d), d, values{})
	if s, e := snap.Open(nil); s != nil || e != api.ErrForm {
		t.Errorf("Open(nil): %v, %v", s, e)
	}
	d.Off(0)
	if s, e := snap.Open(d); s != nil || e != api.ErrPower {
		t.Errorf("without power: %v, %v", s, e)
	}
}

// P20.1, P20.2: what is set is there, also after a crash.
func TestSet(t *testing.T) {
	d := newDisk(t, nil)
	s := open(t, d)
	var want values
	for _, v := range []values{
		{1, 0, 0, 0, ""},
		{0, 0, 1, 0, ""},
		{end - 1, api.MaxNodes, end - 1, end - 1, strings.Repeat("x", api.MaxSnap)},
		{0, 1, 5, 6, "\x00\xff"},
		{7, 7, 0, 0, ""},
		{7, 7, 0, 0, "bytes without an index"},
		{7, 7, 2, 0, strings.Repeat("\x00", 4096)},
	} {
		want.term, want.vote = v.term, v.vote
		if e := s.SetVote(v.term, v.vote); e != api.OK {
			t.Fatalf("SetVote(%d, %d): %v", v.term, v.vote, e)
		}
		check(t, s, d, want)
		if e := s.SetSnapshot(v.index, v.at, v.text); e != api.OK {
			t.Fatalf("SetSnapshot(%d, %d, %d bytes): %v", v.index, v.at, len(v.text), e)
		}
		want = v
		check(t, s, d, want)
		s = open(t, d)
	}
}

// P20.2: what is refused.
func TestErrors(t *testing.T) {
	d := newDisk(t, nil)
	s := open(t, d)
	s.SetVote(3, 1)
	s.SetSnapshot(4, 2, "abc")
	want := values{3, 1, 4, 2, "abc"}
	for _, c := range [][2]int{{-1, 0}, {end, 0}, {1<<63 - 1, 1}, {-1 << 63, 1}, {1, -1}, {1, api.MaxNodes + 1}, {1, 1 << 40}} {
		if e := s.SetVote(c[0], c[1]); e != api.ErrForm {
			t.Errorf("SetVote(%d, %d): %v", c[0], c[1], e)
		}
	}
	long := strings.Repeat("x", api.MaxSnap+1)
	for _, c := range []values{{index: -1}, {index: end}, {at: -1}, {at: end}, {index: 1<<63 - 1}, {text: long}} {
		if e := s.SetSnapshot(c.index, c.at, c.text); e != api.ErrForm {
			t.Errorf("SetSnapshot(%d, %d, %d bytes): %v", c.index, c.at, len(c.text), e)
		}
	}
	check(t, s, d, want)
}

// set is a call that sets values.
type set struct {
	snapshot bool
	values
}

func (c set) do(s *snap.Store) api.Errno {
	if c.snapshot {
		return s.SetSnapshot(c.index, c.at, c.text)
	}
	return s.SetVote(c.term, c.vote)
}

func (c set) plain(v values) values {
	if c.snapshot {
		v.index, v.at, v.text = c.index, c.at, c.text
		return v
	}
	v.term, v.vote = c.term, c.vote
	return v
}

func someSets() []set {
	var l []set
	for i := range 4 {
		l = append(l, set{false, values{term: i + 1, vote: i}})
		l = append(l, set{true, values{index: 10 * i, at: i, text: strings.Repeat(string(rune('a'+i)), 200-40*i)}})
		l = append(l, set{true, values{index: 10*i + 1, at: i, text: strings.Repeat("\x00", 64*i)}})
	}
	return l
}

// P20.2, P20.3: the power fails at every call of the disk; what is found was set as a whole.
func TestCrashes(t *testing.T) {
	for n := 1; ; n++ {
		d := newDisk(t, nil)
		s := open(t, d)
		d.Off(n)
		v := values{}
		allowed := []values{v}
		for _, c := range someSets() {
			e := c.do(s)
			if e == api.OK {
				v = c.plain(v)
				allowed = []values{v}
				continue
			}
			if e != api.ErrPower {
				t.Fatalf("%v", e)
			}
			allowed = []values{v, c.plain(v)}
			break
		}
		if all(s) != v {
			t.Fatalf("off at %d: %v, not %v", n, all(s), v)
		}
		for pick := range 40 {
			reopen(t, d.Crash([]int{pick, pick, pick}), allowed)
		}
		if d.Calls() < n {
			return
		}
	}
}

// reopen opens what a crash left, also with a power failure in between, and sets values again.
func reopen(t *testing.T, files []api.File, allowed []values) {
	t.Helper()
	for n := 1; ; n++ {
		d := newDisk(t, files)
		d.Off(n)
		s, e := snap.Open(d)
		if e != api.OK {
			if s != nil || e != api.ErrPower {
				t.Fatalf("Open: %v, %v", s, e)
			}
			for pick := range 5 {
				if got := all(open(t, newDisk(t, d.Crash([]int{pick, pick})))); !slices.Contains(allowed, got) {
					t.Fatalf("after two crashes: %v", got)
				}
			}
			continue
		}
		v := all(s)
		if !slices.Contains(allowed, v) {
			t.Fatalf("after a crash: %v, not one of %v", v, allowed)
		}
		c := set{n%2 == 0, values{term: 99, index: 99, text: "short"}}
		found := []values{v, c.plain(v)}
		if e := c.do(s); e == api.OK {
			found = found[1:]
		}
		for pick := range 5 {
			if got := all(open(t, newDisk(t, d.Crash([]int{pick, pick})))); !slices.Contains(found, got) {
				t.Fatalf("set after a crash: %v, not one of %v", got, found)
			}
		}
		if d.Calls() < n {
			return
		}
	}
}

// P20.2: after an error of the disk nothing works.
func TestAfterErrors(t *testing.T) {
	d := newDisk(t, nil)
	s := open(t, d)
	s.SetVote(3, 1)
	s.SetSnapshot(4, 2, "abc")
	d.Off(2)
	for i, e := range []api.Errno{s.SetVote(4, 2), s.SetVote(5, 1), s.SetVote(-1, 1), s.SetSnapshot(5, 3, ""), s.SetSnapshot(-1, 0, "")} {
		if e != api.ErrPower {
			t.Errorf("call %d: %v", i, e)
		}
	}
	if got := all(s); got != (values{3, 1, 4, 2, "abc"}) {
		t.Errorf("%v", got)
	}
}

// P20.2: an error of the disk that is not one of power is told.
func TestNoRoom(t *testing.T) {
	var others []api.File
	for i := range api.MaxFiles {
		others = append(others, api.File{Name: fmt.Sprintf("other-%02d", i)})
	}
	s := open(t, newDisk(t, others))
	if a, b := s.SetVote(1, 1), s.SetSnapshot(1, 1, ""); a != api.ErrFull || b != api.ErrPower || all(s) != (values{}) {
		t.Errorf("%v, %v, %v", a, b, all(s))
	}
}

// The names of the files begin with "snap"; other files stay as they are.
func TestFiles(t *testing.T) {
	d := newDisk(t, []api.File{{Name: "other", Data: []byte("kept")}, {Name: "wal-0", Data: []byte("kept")}})
	s := open(t, d)
	s.SetVote(3, 1)
	s.SetSnapshot(4, 2, "abc")
	for _, f := range d.Crash(nil) {
		if !strings.HasPrefix(f.Name, "snap") && string(f.Data) != "kept" {
			t.Errorf("%q", f)
		}
	}
	if names, _ := d.List(); !slices.Contains(names, "other") || !slices.Contains(names, "wal-0") {
		t.Errorf("%q", names)
	}
}

// The chapter's example.
func TestExample(t *testing.T) {
	d := newDisk(t, nil)
	open(t, d).SetVote(3, 1)
	if term, vote := open(t, newDisk(t, d.Crash(nil))).Vote(); term != 3 || vote != 1 {
		t.Errorf("%d, %d", term, vote)
	}
}
