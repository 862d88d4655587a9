package raft

import (
	"slices"

	"lectern/api"
	"lectern/entries"
	"lectern/quorum"
	"lectern/random"
)

// state is a valid one.
type state struct{ api.Raft }

func copyOf(r api.Raft) state {
	r.Log.Entries = slices.Clone(r.Log.Entries)
	r.Votes = slices.Clone(r.Votes)
	r.Next = slices.Clone(r.Next)
	r.Match = slices.Clone(r.Match)
	r.Sent = slices.Clone(r.Sent)
	r.Reads = slices.Clone(r.Reads)
	for i := range r.Reads {
		r.Reads[i].Acks = slices.Clone(r.Reads[i].Acks)
	}
	return state{r}
}

// last returns the last Index and the last Term.
func (s *state) last() (index, term int) {
	index, term, _ = entries.Last(s.Log)
	return index, term
}

// term returns the Term of the log at an index from Base to the last Index.
func (s *state) term(i int) int {
	term, _ := entries.Term(s.Log, i)
	return term
}

// others lists all nodes but this one.
func (s *state) others() []int {
	var l []int
	for id := 1; id <= s.Nodes; id++ {
		if id != s.ID {
			l = append(l, id)
		}
	}
	return l
}

// draw draws a timeout.
func (s *state) draw() {
	seed, more := random.Below(s.Seed, api.Wait)
	s.Seed, s.Timeout, s.Elapsed = seed, api.Wait+more, 0
}

// follow becomes a follower in a term.
func (s *state) follow(term int) {
	s.Role, s.Leader = api.Follower, 0
	s.Votes, s.Next, s.Match, s.Sent, s.Reads = nil, nil, nil, nil, nil
	if term > s.Term {
		s.Term, s.Vote, s.Part, s.PartOf = term, 0, "", 0
	}
}

// full reports whether no entry can be added to the log.
func (s *state) full() bool {
	index, _ := s.last()
	return len(s.Log.Entries) == api.MaxEntries || index == end
}

// add appends an entry with this term to the log, which is not full, and returns its index.
func (s *state) add(data string) int {
	index, _ := s.last()
	index++
	if l, e := entries.Append(s.Log, []api.Entry{{Index: index, Term: s.Term, Data: data}}); e == api.OK {
		s.Log = l
	}
	return index
}

// settle updates the commit index of a leader.
func (s *state) settle() {
	s.Match[s.ID-1], _ = s.last()
	i, e := quorum.Index(s.Match...)
	if e == api.OK && i > s.Commit && s.term(i) == s.Term {
		s.Commit = i
	}
}

// acknowledge adds a node to the acknowledgements of all reads that are not of a later round.
func (s *state) acknowledge(id, round int) {
	for i, q := range s.Reads {
		if q.Round <= round {
			s.Reads[i].Acks = with(q.Acks, id)
		}
	}
}

// with returns ascending numbers with one more, if it is not there.
func with(l []int, id int) []int {
	i, found := slices.BinarySearch(l, id)
	if found {
		return l
	}
	return slices.Insert(l, i, id)
}

// enough reports whether these nodes are a majority.
func (s *state) enough(ids []int) bool {
	ok, e := quorum.Enough(s.Nodes, ids...)
	return ok && e == api.OK
}
