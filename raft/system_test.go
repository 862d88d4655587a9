package raft_test

import (
	"fmt"
	"testing"

	"lectern/api"
	"lectern/raft"
)

type chance uint64

func (c *chance) below(n int) int {
	*c = *c*6364136223846793005 + 1442695040888963407
	return int(*c >> 33 % chance(n))
}

// system is several nodes, and the messages between them.
type system struct {
	t         *testing.T
	c         chance
	nodes     []api.Raft
	msgs      []api.Rpc
	committed []api.Entry // what any node has committed
	leaders   map[int]int // of each term
	asked     map[int]int // of each read: how much was committed when it was asked
	reads     int
	answered  int
}

func newSystem(t *testing.T, n, seed int) *system {
	s := &system{t: t, c: chance(seed), leaders: map[int]int{}, asked: map[int]int{}}
	for id := 1; id <= n; id++ {
		r, e := raft.New(id, n, uint64(seed*100+id))
		if e != api.OK {
			t.Fatalf("New: %v", e)
		}
		s.nodes = append(s.nodes, r)
	}
	return s
}

// set takes a node's new state over and checks T1 for it.
func (s *system) set(r api.Raft, out []api.Rpc) {
	s.t.Helper()
	old := s.nodes[r.ID-1]
	if e := raft.Check(r); e != api.OK {
		s.t.Fatalf("an invalid state: %+v", r)
	}
	if r.Commit < old.Commit || r.Term < old.Term {
		s.t.Fatalf("node %d goes back from %d to %d, in term %d and %d", r.ID, old.Commit, r.Commit, old.Term, r.Term)
	}
	if r.Role == api.Leader {
		if l, found := s.leaders[r.Term]; found && l != r.ID {
			s.t.Fatalf("term %d has the leaders %d and %d", r.Term, l, r.ID)
		}
		s.leaders[r.Term] = r.ID
	}
	for _, e := range r.Log.Entries {
		switch {
		case e.Index > r.Commit:
		case e.Index <= len(s.committed):
			if s.committed[e.Index-1] != e {
				s.t.Fatalf("node %d: entry %d is %v and %v", r.ID, e.Index, e, s.committed[e.Index-1])
			}
		default:
			s.committed = append(s.committed, e)
		}
	}
	if r.Log.Base > 0 && s.committed[r.Log.Base-1].Term != r.Log.BaseTerm {
		s.t.Fatalf("node %d: base %d of term %d", r.ID, r.Log.Base, r.Log.BaseTerm)
	}
	if want := snapOf(s.committed, r.Log.Base); r.Log.Base > 0 && r.Snap != want {
		s.t.Fatalf("node %d: another snapshot at %d", r.ID, r.Log.Base)
	}
	s.nodes[r.ID-1] = r
	s.msgs = append(s.msgs, out...)
}

// snapOf is the snapshot up to an index: longer than a part now and then.
func snapOf(l []api.Entry, index int) string {
	if index == 0 {
		return ""
	}
	s := ""
	for range index % 4 {
		s += fmt.Sprintf("%0700d", index)
	}
	return s + fmt.Sprintf("%d/%d", index, l[index-1].Term)
}

// one makes one step by chance; faults says how often messages are lost and nodes crash.
func (s *system) one(faults bool) {
	s.t.Helper()
	r := s.nodes[s.c.below(len(s.nodes))]
	switch k := s.c.below(100); {
	case k < 30:
		r, out, e := raft.Tick(r)
		s.must(e)
		s.set(r, out)
	case k < 90:
		s.deliver(faults)
	case k < 95:
		if r, out, _, e := raft.Propose(r, fmt.Sprintf("data %d", s.c.below(1000))); e == api.OK {
			s.set(r, out)
		}
	case k < 97:
		s.read(r)
	case k < 99:
		if i := r.Log.Base + 1 + s.c.below(5); i <= r.Commit {
			r, e := raft.Compact(r, i, snapOf(s.committed, i))
			s.must(e)
			s.set(r, nil)
		}
	case faults && s.c.below(5) == 0:
		s.restart(r)
	}
	s.ready()
}

func (s *system) must(e api.Errno) {
	s.t.Helper()
	if e != api.OK {
		s.t.Fatalf("%v", e)
	}
}

// deliver delivers a message; with faults it may be any, may be lost, may come again.
func (s *system) deliver(faults bool) {
	s.t.Helper()
	if len(s.msgs) == 0 {
		return
	}
	i := 0
	if faults {
		i = s.c.below(len(s.msgs))
	}
	m := s.msgs[i]
	if !faults || s.c.below(10) > 0 {
		s.msgs = append(s.msgs[:i:i], s.msgs[i+1:]...)
	}
	if faults && s.c.below(10) == 0 {
		return
	}
	r, out, e := raft.Take(s.nodes[m.To-1], m)
	s.must(e)
	s.set(r, out)
}

func (s *system) read(r api.Raft) {
	s.reads++
	if r, out, e := raft.Read(r, s.reads); e == api.OK {
		s.asked[s.reads] = len(s.committed)
		s.set(r, out)
	}
}

// ready looks at the reads that are confirmed.
func (s *system) ready() {
	s.t.Helper()
	for _, r := range s.nodes {
		r, reads, e := raft.Ready(r)
		s.must(e)
		s.nodes[r.ID-1] = r
		for _, q := range reads {
			s.answered++
			if q.Index < s.asked[q.ID] || q.Index > len(s.committed) {
				s.t.Fatalf("read %d has the index %d, but %d were committed before", q.ID, q.Index, s.asked[q.ID])
			}
		}
	}
}

// restart keeps what a node has on its disk.
func (s *system) restart(r api.Raft) {
	n, e := raft.New(r.ID, r.Nodes, uint64(s.c.below(1000)))
	s.must(e)
	n.Term, n.Vote, n.Log, n.Snap, n.Commit = r.Term, r.Vote, r.Log, r.Snap, r.Log.Base
	s.nodes[r.ID-1] = n
}

// P26.7: whatever happens, there is one leader in a term, and what is committed stays; reads see what was committed.
func TestFaults(t *testing.T) {
	elected, answered, committed := 0, 0, 0
	for seed := range 60 {
		s := newSystem(t, 1+seed%7, seed)
		for range 4000 {
			s.one(true)
		}
		elected += len(s.leaders)
		answered += s.answered
		committed += len(s.committed)
	}
	if elected < 60 || answered < 60 || committed < 600 {
		t.Errorf("little happened: %d leaders, %d reads, %d entries", elected, answered, committed)
	}
}

// T5: when nothing is lost, entries are committed everywhere.
func TestNoFaults(t *testing.T) {
	for seed := range 21 {
		s := newSystem(t, 1+seed%7, seed)
		for range 3000 {
			s.one(true)
		}
		for range 300 {
			for i := range s.nodes {
				r, out, e := raft.Tick(s.nodes[i])
				s.must(e)
				s.set(r, out)
			}
			for len(s.msgs) > 0 {
				s.deliver(false)
			}
		}
		for _, r := range s.nodes {
			if r.Commit != len(s.committed) || r.Commit != r.Log.Base+len(r.Log.Entries) || r.Leader != s.nodes[0].Leader || r.Leader == 0 {
				t.Errorf("seed %d: node %d: %d of %d committed, leader %d", seed, r.ID, r.Commit, len(s.committed), r.Leader)
			}
		}
	}
}
