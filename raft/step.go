package raft

import (
	"lectern/api"
	"lectern/entries"
)

// step is a state that is being changed, and the messages to send.
type step struct {
	state
	out []api.Rpc
}

func begin(r api.Raft) (*step, api.Errno) {
	if Check(r) != api.OK {
		return nil, api.ErrForm
	}
	return &step{state: copyOf(r)}, api.OK
}

// put adds a message.
func (s *step) put(to int, m api.Rpc) {
	m.From, m.To, m.Term = s.ID, to, s.Term
	s.out = append(s.out, m)
}

// send sends a node what it needs next.
func (s *step) send(to int) {
	next := s.Next[to-1]
	if next <= s.Log.Base {
		at := s.Sent[to-1]
		till := min(at+api.MaxPart, len(s.Snap))
		s.put(to, api.Rpc{Kind: api.AskSnap, Index: s.Log.Base, LogTerm: s.Log.BaseTerm, At: at, Data: s.Snap[at:till], Done: till == len(s.Snap), Round: s.Round})
		return
	}
	es, _ := entries.Slice(s.Log, next, api.MaxSend)
	s.put(to, api.Rpc{Kind: api.AskAppend, Index: next - 1, LogTerm: s.term(next - 1), Commit: s.Commit, Entries: es, Round: s.Round})
}

func (s *step) sendAll() {
	for _, id := range s.others() {
		s.send(id)
	}
}

// tick lets one unit of time pass.
func (s *step) tick() {
	s.Elapsed = min(s.Elapsed+1, end-1)
	if s.Role != api.Leader {
		if s.Elapsed >= s.Timeout {
			s.elect()
		}
		return
	}
	if s.Elapsed >= api.Beat {
		s.Elapsed = 0
		s.Round = min(s.Round+1, end-1)
		s.sendAll()
	}
}

// elect starts an election.
func (s *step) elect() {
	if s.Term == end-1 {
		s.draw()
		return
	}
	s.Term++
	s.Vote, s.Role, s.Leader = s.ID, api.Candidate, 0
	s.Votes = []int{s.ID}
	s.Part, s.PartOf = "", 0
	s.draw()
	index, term := s.last()
	for _, id := range s.others() {
		s.put(id, api.Rpc{Kind: api.AskVote, Index: index, LogTerm: term})
	}
	s.count()
}

// count looks whether the votes are enough.
func (s *step) count() {
	if s.enough(s.Votes) {
		s.lead()
	}
}

// lead becomes leader, if there is room for an entry of this term.
func (s *step) lead() {
	if s.full() {
		s.follow(s.Term)
		return
	}
	index, _ := s.last()
	s.Role, s.Leader, s.Votes, s.Elapsed = api.Leader, s.ID, nil, 0
	s.Next, s.Match, s.Sent = make([]int, s.Nodes), make([]int, s.Nodes), make([]int, s.Nodes)
	for i := range s.Next {
		s.Next[i] = index + 1
	}
	s.Reads = nil
	s.add("")
	s.sendAll()
	s.settle()
}

// take processes a message that the state accepts.
func (s *step) take(m api.Rpc) {
	if m.Term > s.Term {
		s.follow(m.Term)
	}
	if m.Term < s.Term {
		s.refuse(m)
		return
	}
	switch m.Kind {
	case api.AskVote:
		s.vote(m)
	case api.TellVote:
		s.voted(m)
	case api.AskAppend, api.AskSnap:
		s.hear(m)
	case api.TellAppend, api.TellSnap:
		s.told(m)
	}
}

// refuse answers a message of an older term.
func (s *step) refuse(m api.Rpc) {
	switch m.Kind {
	case api.AskVote:
		s.put(m.From, api.Rpc{Kind: api.TellVote})
	case api.AskAppend, api.AskSnap:
		s.tell(m, false, 0)
	}
}

// tell answers with TellAppend.
func (s *step) tell(m api.Rpc, ok bool, index int) {
	s.put(m.From, api.Rpc{Kind: api.TellAppend, Ok: ok, Index: index, Round: m.Round})
}

func (s *step) vote(m api.Rpc) {
	newer, _ := entries.Newer(s.Log, m.Index, m.LogTerm)
	ok := newer && (s.Vote == 0 || s.Vote == m.From)
	if ok {
		s.Vote, s.Elapsed = m.From, 0
	}
	s.put(m.From, api.Rpc{Kind: api.TellVote, Ok: ok})
}

func (s *step) voted(m api.Rpc) {
	if !m.Ok || s.Role != api.Candidate {
		return
	}
	s.Votes = with(s.Votes, m.From)
	s.count()
}

// hear processes what the leader of the term sends.
func (s *step) hear(m api.Rpc) {
	if s.Role == api.Leader {
		return
	}
	if s.Role == api.Candidate {
		s.follow(s.Term)
	}
	s.Leader, s.Elapsed = m.From, 0
	if m.Kind == api.AskAppend {
		s.merge(m)
		return
	}
	if m.Index <= s.Commit || m.LogTerm < s.term(s.Commit) {
		s.tell(m, true, s.Commit)
		return
	}
	s.collect(m)
}

// merge merges a leader's entries into the log.
func (s *step) merge(m api.Rpc) {
	l, miss, e := entries.Merge(s.Log, m.Index, m.LogTerm, m.Entries)
	if e != api.OK {
		return
	}
	if miss {
		index, _ := s.last()
		s.tell(m, false, max(0, min(m.Index-1, index)))
		return
	}
	if !s.keepsCommitted(l) {
		return
	}
	s.Log = l
	till := max(m.Index+len(m.Entries), s.Log.Base)
	s.Commit = max(s.Commit, min(m.Commit, till))
	s.tell(m, true, till)
}

// keepsCommitted reports whether a merged log has the entries up to Commit of the log that it was made of.
func (s *step) keepsCommitted(l api.Log) bool {
	committed := s.Commit - s.Log.Base
	if len(l.Entries) < committed {
		return false
	}
	for i, e := range s.Log.Entries[:committed] {
		if l.Entries[i].Term != e.Term {
			return false
		}
	}
	return true
}

// collect takes a part of a snapshot, and installs the snapshot when it is complete.
func (s *step) collect(m api.Rpc) {
	if s.PartOf != m.Index {
		s.PartOf, s.Part = m.Index, ""
	}
	fits := m.At == len(s.Part) && len(s.Part)+len(m.Data) <= api.MaxSnap
	if fits {
		s.Part += m.Data
	}
	if !fits || !m.Done {
		s.put(m.From, api.Rpc{Kind: api.TellSnap, Index: m.Index, At: len(s.Part), Round: m.Round})
		return
	}
	s.install(m.Index, m.LogTerm)
	s.tell(m, true, s.Commit)
}

// install makes the collected bytes the snapshot up to an index, which is above Commit.
func (s *step) install(index, term int) {
	l := api.Log{Base: index, BaseTerm: term}
	if t, e := entries.Term(s.Log, index); e == api.OK && t == term {
		l, _ = entries.Compact(s.Log, index)
	}
	s.Log, s.Snap, s.Commit = l, s.Part, index
	s.Part, s.PartOf = "", 0
}

// told processes what a node answers to its leader.
func (s *step) told(m api.Rpc) {
	if s.Role != api.Leader {
		return
	}
	s.acknowledge(m.From, m.Round)
	if m.Kind == api.TellSnap {
		s.toldSnap(m)
		return
	}
	last, _ := s.last()
	next, match := &s.Next[m.From-1], &s.Match[m.From-1]
	if !m.Ok {
		*next = max(min(*next-1, m.Index+1), *match+1)
		s.Sent[m.From-1] = 0
		s.send(m.From)
		return
	}
	if m.Index > last {
		return
	}
	*match = max(*match, m.Index)
	*next = *match + 1
	s.Sent[m.From-1] = 0
	s.settle()
	if *next <= last {
		s.send(m.From)
	}
}

func (s *step) toldSnap(m api.Rpc) {
	if m.Index != s.Log.Base || s.Next[m.From-1] > s.Log.Base || m.At > len(s.Snap) {
		return
	}
	s.Sent[m.From-1] = m.At
	s.send(m.From)
}
