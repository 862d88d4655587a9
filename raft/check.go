package raft

import (
	"lectern/api"
	"lectern/entries"
	"lectern/rpc"
)

const (
	end     = 1 << 40 // above all terms, rounds and times; the greatest index
	maxBase = end - 2048
)

// within reports whether all numbers are from low to high.
func within(low, high int, l ...int) bool {
	for _, n := range l {
		if n < low || n > high {
			return false
		}
	}
	return true
}

// Check returns ErrForm if the state is invalid.
func Check(r api.Raft) api.Errno {
	if !validNumbers(r) || !validLog(r) || !rising(r.Votes, r.Nodes) || !validLists(r) || !validPart(r) {
		return api.ErrForm
	}
	return api.OK
}

func validNumbers(r api.Raft) bool {
	return within(1, api.MaxNodes, r.Nodes) &&
		within(1, r.Nodes, r.ID) &&
		within(api.Follower, api.Leader, r.Role) &&
		within(0, r.Nodes, r.Vote, r.Leader) &&
		within(0, end-1, r.Term, r.Elapsed, r.Timeout, r.Round)
}

func validLog(r api.Raft) bool {
	index, term, e := entries.Last(r.Log)
	return e == api.OK && term <= r.Term && within(r.Log.Base, index, r.Commit) &&
		len(r.Snap) <= api.MaxSnap && (r.Log.Base > 0 || r.Snap == "")
}

func validPart(r api.Raft) bool {
	return len(r.Part) <= api.MaxSnap && within(0, maxBase, r.PartOf) && (r.PartOf > 0 || r.Part == "")
}

// rising reports whether the numbers are nodes, strictly ascending.
func rising(l []int, nodes int) bool {
	for i, id := range l {
		if !within(1, nodes, id) || i > 0 && l[i-1] >= id {
			return false
		}
	}
	return true
}

// validLists looks at what only a leader has.
func validLists(r api.Raft) bool {
	if r.Role != api.Leader {
		return len(r.Next)+len(r.Match)+len(r.Sent)+len(r.Reads) == 0
	}
	last := r.Log.Base + len(r.Log.Entries)
	if len(r.Next) != r.Nodes || len(r.Match) != r.Nodes || len(r.Sent) != r.Nodes || len(r.Reads) > api.MaxReads {
		return false
	}
	if !within(1, last+1, r.Next...) || !within(0, last, r.Match...) || !within(0, len(r.Snap), r.Sent...) {
		return false
	}
	for _, q := range r.Reads {
		if !within(1, end, q.ID) || !within(0, r.Commit, q.Index) || !within(0, r.Round, q.Round) || !rising(q.Acks, r.Nodes) {
			return false
		}
	}
	return true
}

// accepts reports whether a message can be processed by this node.
func accepts(r api.Raft, m api.Rpc) bool {
	if rpc.Check(m) != api.OK || m.From > r.Nodes || m.To != r.ID || m.From == r.ID {
		return false
	}
	if m.Kind != api.AskAppend && m.Kind != api.AskSnap {
		return true
	}
	for _, e := range m.Entries {
		if e.Term > m.Term {
			return false
		}
	}
	return m.LogTerm <= m.Term
}
