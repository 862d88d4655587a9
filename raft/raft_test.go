package raft_test

import (
	"fmt"
	"slices"
	"strings"
	"testing"

	"lectern/api"
	"lectern/raft"
	"lectern/random"
)

const (
	end     = 1 << 40
	maxBase = end - 2048
)

// same holds two values against each other; a nil list is an empty one.
func same(a, b any) bool {
	return show(a) == show(b)
}

func show(a any) string {
	return fmt.Sprintf("%+v %+q", a, a)
}

// list returns entries from an index on, with these terms.
func list(from int, terms ...int) []api.Entry {
	var l []api.Entry
	for i, term := range terms {
		l = append(l, api.Entry{Index: from + i, Term: term, Data: fmt.Sprintf("%d/%d", from+i, term)})
	}
	return l
}

func logOf(base, baseTerm int, terms ...int) api.Log {
	return api.Log{Base: base, BaseTerm: baseTerm, Entries: list(base+1, terms...)}
}

// follower is node 2 of 3 in Term 5; its log ends with 7/5, and is committed up to 5.
func follower() api.Raft {
	return api.Raft{ID: 2, Nodes: 3, Term: 5, Log: logOf(3, 2, 2, 3, 5, 5), Snap: "snapshot", Commit: 5, Elapsed: 7, Timeout: 12, Seed: 99}
}

func candidate() api.Raft {
	r := follower()
	r.Role, r.Vote, r.Votes = api.Candidate, 2, []int{2}
	return r
}

func leader() api.Raft {
	r := follower()
	r.Role, r.Vote, r.Leader, r.Round, r.Elapsed = api.Leader, 2, 2, 4, 0
	r.Next, r.Match, r.Sent = []int{8, 4, 6}, []int{7, 7, 0}, []int{0, 0, 0}
	return r
}

// change returns a state after a change.
func change(r api.Raft, f func(r *api.Raft)) api.Raft {
	r.Votes, r.Next, r.Match, r.Sent = slices.Clone(r.Votes), slices.Clone(r.Next), slices.Clone(r.Match), slices.Clone(r.Sent)
	r.Log.Entries, r.Reads = slices.Clone(r.Log.Entries), slices.Clone(r.Reads)
	for i := range r.Reads {
		r.Reads[i].Acks = slices.Clone(r.Reads[i].Acks)
	}
	f(&r)
	return r
}

// drawn is what drawing a timeout does.
func drawn(r *api.Raft) {
	r.Seed = random.Next(r.Seed)
	r.Timeout = 10 + int(r.Seed%10)
	r.Elapsed = 0
}

// stepsDown is what becoming a follower does.
func stepsDown(r *api.Raft, term int) {
	r.Role, r.Leader = api.Follower, 0
	r.Votes, r.Next, r.Match, r.Sent, r.Reads = nil, nil, nil, nil, nil
	if term > r.Term {
		r.Term, r.Vote, r.Part, r.PartOf = term, 0, "", 0
	}
}

func ticks(t *testing.T, what string, r api.Raft, f func(r *api.Raft), out ...api.Rpc) {
	t.Helper()
	before := show(r)
	got, msgs, e := raft.Tick(r)
	compare(t, what, r, before, got, msgs, e, f, out)
}

// takes checks what a message does to a state: f makes the changes that are wanted, out are the messages.
func takes(t *testing.T, what string, r api.Raft, m api.Rpc, f func(r *api.Raft), out ...api.Rpc) {
	t.Helper()
	before := show(r)
	got, msgs, e := raft.Take(r, m)
	compare(t, what, r, before, got, msgs, e, f, out)
}

func compare(t *testing.T, what string, r api.Raft, before string, got api.Raft, msgs []api.Rpc, e api.Errno, f func(r *api.Raft), out []api.Rpc) {
	t.Helper()
	if show(r) != before {
		t.Fatalf("%s: the argument changed: %s", what, before)
	}
	want := change(r, f)
	if e != api.OK || !same(got, want) {
		t.Errorf("%s: %v\n%+v, not\n%+v", what, e, got, want)
	}
	if !same(msgs, out) {
		t.Errorf("%s: messages\n%+v, not\n%+v", what, msgs, out)
	}
	if e := raft.Check(got); e != api.OK {
		t.Errorf("%s: an invalid state %+v", what, got)
	}
}

func nothing(r *api.Raft) {}

// P26.1: the first state of a node.
func TestNew(t *testing.T) {
	for nodes := 1; nodes <= api.MaxNodes; nodes++ {
		for id := 1; id <= nodes; id++ {
			for _, seed := range []uint64{0, 1, 77, 1<<64 - 1} {
				want := api.Raft{ID: id, Nodes: nodes, Seed: seed}
				drawn(&want)
				if r, e := raft.New(id, nodes, seed); e != api.OK || !same(r, want) {
					t.Errorf("New(%d, %d, %d): %+v, %v", id, nodes, seed, r, e)
				}
			}
		}
	}
	for _, c := range [][2]int{{0, 3}, {4, 3}, {-1, 3}, {1, 0}, {1, -1}, {1, 8}, {8, 8}, {0, 0}, {-1 << 63, 1}, {1, 1<<63 - 1}} {
		if r, e := raft.New(c[0], c[1], 1); e != api.ErrForm || !same(r, api.Raft{}) {
			t.Errorf("New(%d, %d): %+v, %v", c[0], c[1], r, e)
		}
	}
}

func validStates() []api.Raft {
	reads := []api.Read{{ID: end, Index: 5, Round: 4, Acks: []int{1, 2, 3}}, {ID: 1}}
	return []api.Raft{
		follower(), candidate(), leader(),
		{ID: 1, Nodes: 1},
		{ID: 7, Nodes: 7, Term: end - 1, Vote: 7, Leader: 7, Commit: 0, Elapsed: end - 1, Timeout: end - 1, Round: end - 1, Votes: []int{1, 2, 3, 4, 5, 6, 7}},
		change(follower(), func(r *api.Raft) { r.Snap, r.Commit = strings.Repeat("x", api.MaxSnap), 7 }),
		change(follower(), func(r *api.Raft) { r.Snap, r.Commit = "", 3 }),
		change(follower(), func(r *api.Raft) { r.Part, r.PartOf = strings.Repeat("x", api.MaxSnap), maxBase }),
		change(follower(), func(r *api.Raft) { r.PartOf = 1 }),
		change(follower(), func(r *api.Raft) { r.Part, r.PartOf = "x", 1 }),
		change(follower(), func(r *api.Raft) { r.Log, r.Commit, r.Snap = logOf(1, 2, 2), 1, "x" }),
		change(leader(), func(r *api.Raft) { r.Reads = reads }),
		change(leader(), func(r *api.Raft) { r.Reads = slices.Repeat(reads[1:], api.MaxReads) }),
		change(leader(), func(r *api.Raft) { r.Next, r.Match, r.Sent = []int{1, 1, 8}, []int{0, 7, 7}, []int{8, 0, 8} }),
		change(follower(), func(r *api.Raft) { r.Term, r.Log = end-1, logOf(maxBase, end-1, end-1); r.Commit = maxBase }),
	}
}

func invalidStates() []api.Raft {
	l := []api.Raft{{}}
	add := func(r api.Raft, f func(r *api.Raft)) { l = append(l, change(r, f)) }
	for _, n := range []int{-1, 4} {
		add(follower(), func(r *api.Raft) { r.Vote = n })
		add(follower(), func(r *api.Raft) { r.Leader = n })
		add(follower(), func(r *api.Raft) { r.ID = n })
		add(follower(), func(r *api.Raft) { r.Votes = []int{n} })
		add(leader(), func(r *api.Raft) { r.Reads = []api.Read{{ID: 1, Acks: []int{n}}} })
	}
	for _, n := range []int{-1, end} {
		add(follower(), func(r *api.Raft) { r.Term = n })
		add(follower(), func(r *api.Raft) { r.Elapsed = n })
		add(follower(), func(r *api.Raft) { r.Timeout = n })
		add(follower(), func(r *api.Raft) { r.Round = n })
		add(follower(), func(r *api.Raft) { r.PartOf = n })
	}
	add(follower(), func(r *api.Raft) { r.Nodes = 0 })
	add(follower(), func(r *api.Raft) { r.Nodes = 8 })
	add(follower(), func(r *api.Raft) { r.ID = 0 })
	add(follower(), func(r *api.Raft) { r.Role = -1 })
	add(follower(), func(r *api.Raft) { r.Role = 3 })
	add(follower(), func(r *api.Raft) { r.Term = 4 })
	add(follower(), func(r *api.Raft) { r.Log = logOf(3, 6) })
	add(follower(), func(r *api.Raft) { r.Log.Entries[0].Index = 9 })
	add(follower(), func(r *api.Raft) { r.Log.Entries[0].Term = 1 })
	add(follower(), func(r *api.Raft) { r.Log, r.Commit = logOf(0, 0, 1), 0 })
	add(follower(), func(r *api.Raft) { r.Snap = strings.Repeat("x", api.MaxSnap+1) })
	add(follower(), func(r *api.Raft) { r.Commit = 2 })
	add(follower(), func(r *api.Raft) { r.Commit = 8 })
	add(follower(), func(r *api.Raft) { r.Votes = []int{2, 1} })
	add(follower(), func(r *api.Raft) { r.Votes = []int{2, 2} })
	add(follower(), func(r *api.Raft) { r.Votes = []int{0} })
	add(follower(), func(r *api.Raft) { r.Part = "x" })
	add(follower(), func(r *api.Raft) { r.PartOf = maxBase + 1 })
	add(follower(), func(r *api.Raft) { r.Part, r.PartOf = strings.Repeat("x", api.MaxSnap+1), 9 })
	for _, f := range []func(r *api.Raft){
		func(r *api.Raft) { r.Next = leader().Next },
		func(r *api.Raft) { r.Match = leader().Match },
		func(r *api.Raft) { r.Sent = leader().Sent },
		func(r *api.Raft) { r.Reads = []api.Read{{ID: 1}} },
		func(r *api.Raft) { r.Next, r.Match = leader().Next, leader().Match },
		func(r *api.Raft) { r.Match, r.Sent = leader().Match, leader().Sent },
		func(r *api.Raft) { r.Sent, r.Reads = leader().Sent, make([]api.Read, 3) },
	} {
		add(follower(), f)
		add(candidate(), f)
	}
	for _, f := range []func(r *api.Raft){
		func(r *api.Raft) { r.Next = r.Next[:2] },
		func(r *api.Raft) { r.Match = nil },
		func(r *api.Raft) { r.Sent = append(r.Sent, 0) },
		func(r *api.Raft) { r.Next[0] = 0 },
		func(r *api.Raft) { r.Next[0] = 9 },
		func(r *api.Raft) { r.Match[1] = -1 },
		func(r *api.Raft) { r.Match[1] = 8 },
		func(r *api.Raft) { r.Sent[2] = -1 },
		func(r *api.Raft) { r.Sent[2] = 9 },
		func(r *api.Raft) { r.Reads = slices.Repeat([]api.Read{{ID: 1}}, api.MaxReads+1) },
		func(r *api.Raft) { r.Reads = []api.Read{{ID: 0}} },
		func(r *api.Raft) { r.Reads = []api.Read{{ID: end + 1}} },
		func(r *api.Raft) { r.Reads = []api.Read{{ID: 1, Index: -1}} },
		func(r *api.Raft) { r.Reads = []api.Read{{ID: 1, Index: 6}} },
		func(r *api.Raft) { r.Reads = []api.Read{{ID: 1, Round: -1}} },
		func(r *api.Raft) { r.Reads = []api.Read{{ID: 1, Round: 5}} },
		func(r *api.Raft) { r.Reads = []api.Read{{ID: 1, Acks: []int{2, 2}}} },
		func(r *api.Raft) { r.Reads = []api.Read{{ID: 1, Acks: []int{3, 2}}} },
	} {
		add(leader(), f)
	}
	return l
}

// P26.1: valid and invalid states; every function looks at the state first.
func TestCheck(t *testing.T) {
	for i, r := range validStates() {
		if e := raft.Check(r); e != api.OK {
			t.Errorf("state %d: %v", i, e)
		}
		if _, _, e := raft.Tick(r); e != api.OK {
			t.Errorf("state %d: Tick: %v", i, e)
		}
	}
	for i, r := range invalidStates() {
		a, m1, b := raft.Tick(r)
		c, m2, d := raft.Take(r, api.Rpc{Kind: api.TellVote, From: 1, To: 2})
		f, m3, n, g := raft.Propose(r, "x")
		h, j := raft.Compact(r, 4, "")
		k, m4, l := raft.Read(r, 0)
		o, reads, p := raft.Ready(r)
		for n, e := range []api.Errno{raft.Check(r), b, d, g, j, l, p} {
			if e != api.ErrForm {
				t.Errorf("state %d, function %d: %v", i, n, e)
			}
		}
		if len(m1)+len(m2)+len(m3)+len(m4)+len(reads)+n > 0 || !same([]api.Raft{a, c, f, h, k, o}, make([]api.Raft, 6)) {
			t.Errorf("state %d: results beside errors", i)
		}
	}
}

// P26.2: time passes.
func TestTick(t *testing.T) {
	ticks(t, "no timeout yet", follower(), func(r *api.Raft) { r.Elapsed = 8 })
	ticks(t, "a candidate without timeout", candidate(), func(r *api.Raft) { r.Elapsed = 8 })
	late := change(follower(), func(r *api.Raft) { r.Elapsed, r.Leader, r.Vote, r.Part, r.PartOf = 11, 3, 3, "x", 9 })
	elected := func(r *api.Raft) {
		r.Term, r.Vote, r.Role, r.Leader, r.Votes, r.Part, r.PartOf = 6, 2, api.Candidate, 0, []int{2}, "", 0
		drawn(r)
	}
	asks := []api.Rpc{
		{Kind: api.AskVote, From: 2, To: 1, Term: 6, Index: 7, LogTerm: 5},
		{Kind: api.AskVote, From: 2, To: 3, Term: 6, Index: 7, LogTerm: 5},
	}
	ticks(t, "an election", late, elected, asks...)
	ticks(t, "another election", change(candidate(), func(r *api.Raft) { r.Elapsed, r.Votes = 11, []int{2} }), elected, asks...)
	ticks(t, "long after the timeout", change(late, func(r *api.Raft) { r.Elapsed = 500 }), elected, asks...)
	ticks(t, "an empty log", api.Raft{ID: 2, Nodes: 2, Timeout: 1}, func(r *api.Raft) {
		r.Term, r.Vote, r.Role, r.Votes = 1, 2, api.Candidate, []int{2}
		drawn(r)
	}, api.Rpc{Kind: api.AskVote, From: 2, To: 1, Term: 1})
	ticks(t, "the last term", change(late, func(r *api.Raft) { r.Term = end - 1 }), drawn)
	ticks(t, "the end of time", change(follower(), func(r *api.Raft) { r.Elapsed, r.Timeout = end-1, end-1; r.Term = end - 1 }), drawn)
}

// P26.2: a leader's rounds.
func TestBeat(t *testing.T) {
	ticks(t, "no beat yet", leader(), func(r *api.Raft) { r.Elapsed = 1 })
	beat := change(leader(), func(r *api.Raft) { r.Elapsed = 1 })
	ticks(t, "a beat", beat, func(r *api.Raft) { r.Elapsed, r.Round = 0, 5 },
		api.Rpc{Kind: api.AskAppend, From: 2, To: 1, Term: 5, Index: 7, LogTerm: 5, Commit: 5, Round: 5},
		api.Rpc{Kind: api.AskAppend, From: 2, To: 3, Term: 5, Index: 5, LogTerm: 3, Commit: 5, Round: 5, Entries: list(6, 5, 5)})
	ticks(t, "the last round", change(beat, func(r *api.Raft) { r.Round = end - 1 }), func(r *api.Raft) { r.Elapsed = 0 },
		api.Rpc{Kind: api.AskAppend, From: 2, To: 1, Term: 5, Index: 7, LogTerm: 5, Commit: 5, Round: end - 1},
		api.Rpc{Kind: api.AskAppend, From: 2, To: 3, Term: 5, Index: 5, LogTerm: 3, Commit: 5, Round: end - 1, Entries: list(6, 5, 5)})
	long := change(beat, func(r *api.Raft) {
		r.Snap = strings.Repeat("a", api.MaxPart) + strings.Repeat("b", api.MaxPart) + "c"
		r.Next, r.Sent = []int{3, 4, 1}, []int{0, 0, 1024}
	})
	ticks(t, "parts of a snapshot", long, func(r *api.Raft) { r.Elapsed, r.Round = 0, 5 },
		api.Rpc{Kind: api.AskSnap, From: 2, To: 1, Term: 5, Index: 3, LogTerm: 2, Data: long.Snap[:1024], Round: 5},
		api.Rpc{Kind: api.AskSnap, From: 2, To: 3, Term: 5, Index: 3, LogTerm: 2, At: 1024, Data: long.Snap[1024:2048], Round: 5})
	ticks(t, "the last parts", change(long, func(r *api.Raft) { r.Sent = []int{2048, 0, 2049} }), func(r *api.Raft) { r.Elapsed, r.Round = 0, 5 },
		api.Rpc{Kind: api.AskSnap, From: 2, To: 1, Term: 5, Index: 3, LogTerm: 2, At: 2048, Data: "c", Round: 5, Done: true},
		api.Rpc{Kind: api.AskSnap, From: 2, To: 3, Term: 5, Index: 3, LogTerm: 2, At: 2049, Round: 5, Done: true})
	exact := change(long, func(r *api.Raft) { r.Snap, r.Sent = r.Snap[:1024], []int{0, 0, 0}; r.Next[2] = 4 })
	ticks(t, "a snapshot of one part", exact, func(r *api.Raft) { r.Elapsed, r.Round = 0, 5 },
		api.Rpc{Kind: api.AskSnap, From: 2, To: 1, Term: 5, Index: 3, LogTerm: 2, Data: exact.Snap, Round: 5, Done: true},
		api.Rpc{Kind: api.AskAppend, From: 2, To: 3, Term: 5, Index: 3, LogTerm: 2, Commit: 5, Round: 5, Entries: list(4, 2, 3, 5, 5)})
	many := change(beat, func(r *api.Raft) { r.Log = logOf(3, 2, slices.Repeat([]int{5}, 20)...); r.Next = []int{4, 4, 8} })
	ticks(t, "more entries than a message has", many, func(r *api.Raft) { r.Elapsed, r.Round = 0, 5 },
		api.Rpc{Kind: api.AskAppend, From: 2, To: 1, Term: 5, Index: 3, LogTerm: 2, Commit: 5, Round: 5, Entries: many.Log.Entries[:16]},
		api.Rpc{Kind: api.AskAppend, From: 2, To: 3, Term: 5, Index: 7, LogTerm: 5, Commit: 5, Round: 5, Entries: many.Log.Entries[4:20]})
}

// P26.2: a node that is alone leads at once; also the limits of its log.
func TestAlone(t *testing.T) {
	one := api.Raft{ID: 1, Nodes: 1, Term: 4, Log: logOf(0, 0, 2, 4), Commit: 1, Timeout: 1, Seed: 5}
	ticks(t, "alone", one, func(r *api.Raft) {
		r.Term, r.Vote, r.Role, r.Leader = 5, 1, api.Leader, 1
		drawn(r)
		r.Next, r.Match, r.Sent = []int{3}, []int{3}, []int{0}
		r.Log.Entries = append(r.Log.Entries, api.Entry{Index: 3, Term: 5})
		r.Commit = 3
	})
	full := change(one, func(r *api.Raft) { r.Log = logOf(0, 0, slices.Repeat([]int{4}, api.MaxEntries)...) })
	ticks(t, "a full log", full, func(r *api.Raft) {
		r.Term, r.Vote = 5, 1
		drawn(r)
	})
	nearly := change(one, func(r *api.Raft) { r.Log = logOf(0, 0, slices.Repeat([]int{4}, api.MaxEntries-1)...) })
	r, _, e := raft.Tick(nearly)
	if e != api.OK || r.Role != api.Leader || r.Commit != api.MaxEntries {
		t.Errorf("a nearly full log: %v, %d, %v", r.Role, r.Commit, e)
	}
}

// The chapter's example.
func TestExample(t *testing.T) {
	r, _ := raft.New(1, 1, 1)
	for range r.Timeout - 1 {
		r, _, _ = raft.Tick(r)
	}
	if r.Role != api.Follower {
		t.Errorf("too early: %+v", r)
	}
	if r, _, e := raft.Tick(r); e != api.OK || r.Role != api.Leader || r.Commit != 1 {
		t.Errorf("%+v, %v", r, e)
	}
}

// P26.3: messages that no node takes.
func TestTakeErrors(t *testing.T) {
	for i, m := range []api.Rpc{
		{},
		{Kind: api.AskVote, From: 1, To: 2, Term: 5, Commit: 1},
		{Kind: 7, From: 1, To: 2, Term: 5},
		{Kind: api.AskVote, From: 4, To: 2, Term: 5},
		{Kind: api.AskVote, From: 1, To: 4, Term: 5},
		{Kind: api.AskVote, From: 1, To: 3, Term: 5},
		{Kind: api.AskVote, From: 2, To: 2, Term: 5},
		{Kind: api.AskVote, From: 1, To: 2, Term: end},
		{Kind: api.AskAppend, From: 1, To: 2, Term: 5, LogTerm: 6},
		{Kind: api.AskAppend, From: 1, To: 2, Term: 5, Index: 7, LogTerm: 5, Entries: list(8, 5, 6)},
		{Kind: api.AskAppend, From: 1, To: 2, Term: 5, Index: 7, LogTerm: 5, Entries: list(9, 5)},
		{Kind: api.AskSnap, From: 1, To: 2, Term: 5, Index: 9, LogTerm: 6},
		{Kind: api.AskSnap, From: 1, To: 2, Term: 5, LogTerm: 5},
		{Kind: api.AskAppend, From: 1, To: 2, Term: 4, LogTerm: 5},
	} {
		for _, r := range []api.Raft{follower(), candidate(), leader()} {
			if got, out, e := raft.Take(r, m); e != api.ErrForm || len(out) != 0 || !same(got, api.Raft{}) {
				t.Errorf("message %d: %+v, %v, %v", i, got, out, e)
			}
		}
	}
	// The Terms of a vote's log are not held against that of the message.
	takes(t, "a vote for a later log", follower(), api.Rpc{Kind: api.AskVote, From: 1, To: 2, Term: 5, LogTerm: 9},
		func(r *api.Raft) { r.Vote, r.Elapsed = 1, 0 }, api.Rpc{Kind: api.TellVote, From: 2, To: 1, Term: 5, Ok: true})
}

// P26.3: messages of older terms.
func TestOldMessages(t *testing.T) {
	for _, r := range []api.Raft{follower(), candidate(), leader()} {
		takes(t, "AskVote", r, api.Rpc{Kind: api.AskVote, From: 1, To: 2, Term: 4, Index: 99, LogTerm: 4}, nothing, api.Rpc{Kind: api.TellVote, From: 2, To: 1, Term: 5})
		refused := api.Rpc{Kind: api.TellAppend, From: 2, To: 3, Term: 5, Round: 8}
		takes(t, "AskAppend", r, api.Rpc{Kind: api.AskAppend, From: 3, To: 2, Term: 4, Index: 5, LogTerm: 3, Round: 8, Commit: 7}, nothing, refused)
		takes(t, "AskSnap", r, api.Rpc{Kind: api.AskSnap, From: 3, To: 2, Term: 4, Index: 50, LogTerm: 3, Round: 8, Done: true}, nothing, refused)
		takes(t, "TellVote", r, api.Rpc{Kind: api.TellVote, From: 3, To: 2, Term: 4, Ok: true}, nothing)
		takes(t, "TellAppend", r, api.Rpc{Kind: api.TellAppend, From: 3, To: 2, Term: 4, Ok: true, Index: 7, Round: 9}, nothing)
		takes(t, "TellSnap", r, api.Rpc{Kind: api.TellSnap, From: 3, To: 2, Term: 4, Index: 3, Round: 9}, nothing)
	}
}

// P26.3: messages of a later term make a follower; what it collected is gone.
func TestLaterMessages(t *testing.T) {
	withPart := change(follower(), func(r *api.Raft) { r.Vote, r.Leader, r.Part, r.PartOf = 3, 3, "x", 9 })
	withRead := change(leader(), func(r *api.Raft) { r.Reads = []api.Read{{ID: 1, Round: 1, Acks: []int{2}}} })
	for _, r := range []api.Raft{withPart, candidate(), withRead} {
		down := func(r *api.Raft) { stepsDown(r, 6) }
		takes(t, "TellVote", r, api.Rpc{Kind: api.TellVote, From: 3, To: 2, Term: 6, Ok: true}, down)
		takes(t, "TellAppend", r, api.Rpc{Kind: api.TellAppend, From: 3, To: 2, Term: 6, Ok: true, Index: 7, Round: 9}, down)
		takes(t, "TellSnap", r, api.Rpc{Kind: api.TellSnap, From: 3, To: 2, Term: 6, Index: 3, Round: 9}, down)
		takes(t, "AskVote, granted", r, api.Rpc{Kind: api.AskVote, From: 1, To: 2, Term: 6, Index: 7, LogTerm: 5},
			func(r *api.Raft) { stepsDown(r, 6); r.Vote, r.Elapsed = 1, 0 }, api.Rpc{Kind: api.TellVote, From: 2, To: 1, Term: 6, Ok: true})
		takes(t, "AskVote, refused", r, api.Rpc{Kind: api.AskVote, From: 1, To: 2, Term: 6, Index: 6, LogTerm: 5},
			down, api.Rpc{Kind: api.TellVote, From: 2, To: 1, Term: 6})
		takes(t, "AskAppend", r, api.Rpc{Kind: api.AskAppend, From: 1, To: 2, Term: 6, Index: 7, LogTerm: 5, Commit: 6, Round: 3},
			func(r *api.Raft) { stepsDown(r, 6); r.Leader, r.Elapsed, r.Commit = 1, 0, 6 }, api.Rpc{Kind: api.TellAppend, From: 2, To: 1, Term: 6, Ok: true, Index: 7, Round: 3})
		takes(t, "AskSnap", r, api.Rpc{Kind: api.AskSnap, From: 1, To: 2, Term: 6, Index: 9, LogTerm: 6, Data: "y", Round: 3},
			func(r *api.Raft) { stepsDown(r, 6); r.Leader, r.Elapsed, r.Part, r.PartOf = 1, 0, "y", 9 }, api.Rpc{Kind: api.TellSnap, From: 2, To: 1, Term: 6, Index: 9, At: 1, Round: 3})
	}
}

// P26.3: votes that are asked for.
func TestAskVote(t *testing.T) {
	ask := func(index, term int) api.Rpc {
		return api.Rpc{Kind: api.AskVote, From: 1, To: 2, Term: 5, Index: index, LogTerm: term}
	}
	granted := func(r *api.Raft) { r.Vote, r.Elapsed = 1, 0 }
	yes, no := api.Rpc{Kind: api.TellVote, From: 2, To: 1, Term: 5, Ok: true}, api.Rpc{Kind: api.TellVote, From: 2, To: 1, Term: 5}
	takes(t, "the same log", follower(), ask(7, 5), granted, yes)
	takes(t, "a longer log", follower(), ask(8, 5), granted, yes)
	takes(t, "a shorter log", follower(), ask(6, 5), nothing, no)
	takes(t, "an older log", follower(), ask(100, 4), nothing, no)
	again := change(follower(), func(r *api.Raft) { r.Vote, r.Leader = 1, 3 })
	takes(t, "asked again", again, ask(7, 5), granted, yes)
	other := change(follower(), func(r *api.Raft) { r.Vote = 3 })
	takes(t, "voted for another", other, ask(8, 5), nothing, no)
	takes(t, "a candidate", candidate(), ask(8, 5), nothing, no)
	takes(t, "a leader", leader(), ask(8, 5), nothing, no)
}

// leads is what becoming leader does to candidate.
func leads(r *api.Raft) {
	r.Role, r.Leader, r.Votes, r.Elapsed = api.Leader, r.ID, nil, 0
	n := len(r.Log.Entries) + r.Log.Base
	r.Next, r.Match, r.Sent = slices.Repeat([]int{n + 1}, r.Nodes), make([]int, r.Nodes), make([]int, r.Nodes)
	r.Log.Entries = append(r.Log.Entries, api.Entry{Index: n + 1, Term: r.Term})
	r.Match[r.ID-1] = n + 1
}

// P26.3: votes that are told.
func TestTellVote(t *testing.T) {
	yes := api.Rpc{Kind: api.TellVote, From: 3, To: 2, Term: 5, Ok: true}
	no := api.Rpc{Kind: api.TellVote, From: 3, To: 2, Term: 5}
	first := api.Rpc{Kind: api.AskAppend, From: 2, To: 1, Term: 5, Index: 7, LogTerm: 5, Commit: 5, Entries: []api.Entry{{Index: 8, Term: 5}}}
	second := first
	second.To, second.Entries = 3, []api.Entry{{Index: 8, Term: 5}}
	takes(t, "enough votes", candidate(), yes, leads, first, second)
	takes(t, "a vote against", candidate(), no, nothing)
	takes(t, "a follower", follower(), yes, nothing)
	takes(t, "a leader", leader(), yes, nothing)
	five := change(candidate(), func(r *api.Raft) { r.Nodes, r.Votes = 5, []int{2, 4} })
	takes(t, "a vote again", five, api.Rpc{Kind: api.TellVote, From: 4, To: 2, Term: 5, Ok: true}, nothing)
	takes(t, "the third of five", five, yes, leads, first, second, change5(first, 4), change5(first, 5))
	lone := change(five, func(r *api.Raft) { r.Votes = []int{2} })
	takes(t, "the second of five", lone, yes, func(r *api.Raft) { r.Votes = []int{2, 3} })
	takes(t, "the second of five", lone, api.Rpc{Kind: api.TellVote, From: 1, To: 2, Term: 5, Ok: true}, func(r *api.Raft) { r.Votes = []int{1, 2} })
	full := change(candidate(), func(r *api.Raft) { r.Log = logOf(3, 2, slices.Repeat([]int{5}, api.MaxEntries)...) })
	takes(t, "a full log", full, yes, func(r *api.Raft) { stepsDown(r, 5) })
}

func change5(m api.Rpc, to int) api.Rpc {
	m.To = to
	return m
}

// P26.3: AskAppend.
func TestAskAppend(t *testing.T) {
	ask := func(index, term, commit int, es ...api.Entry) api.Rpc {
		return api.Rpc{Kind: api.AskAppend, From: 1, To: 2, Term: 5, Index: index, LogTerm: term, Commit: commit, Round: 6, Entries: es}
	}
	tell := func(ok bool, index int) api.Rpc {
		return api.Rpc{Kind: api.TellAppend, From: 2, To: 1, Term: 5, Ok: ok, Index: index, Round: 6}
	}
	heard := func(f func(r *api.Raft)) func(r *api.Raft) {
		return func(r *api.Raft) { r.Leader, r.Elapsed = 1, 0; f(r) }
	}
	commit := func(n int) func(r *api.Raft) { return heard(func(r *api.Raft) { r.Commit = n }) }
	takes(t, "nothing new", follower(), ask(7, 5, 5), heard(nothing), tell(true, 7))
	takes(t, "a commit", follower(), ask(7, 5, 6), commit(6), tell(true, 7))
	takes(t, "a commit beyond the log", follower(), ask(7, 5, 100), commit(7), tell(true, 7))
	takes(t, "a commit beyond what is known to agree", follower(), ask(6, 5, 7), commit(6), tell(true, 6))
	takes(t, "an older commit", follower(), ask(7, 5, 1), heard(nothing), tell(true, 7))
	takes(t, "more", follower(), ask(7, 5, 8, list(8, 5, 5)...), heard(func(r *api.Raft) { r.Log, r.Commit = logOf(3, 2, 2, 3, 5, 5, 5, 5), 8 }), tell(true, 9))
	takes(t, "what is there", follower(), ask(3, 2, 9, list(4, 2, 3)...), heard(nothing), tell(true, 5))
	takes(t, "other entries", change(follower(), func(r *api.Raft) { r.Log = logOf(3, 2, 2, 3, 4, 4, 4) }), ask(5, 3, 5, list(6, 5)...),
		heard(func(r *api.Raft) { r.Log = logOf(3, 2, 2, 3, 5) }), tell(true, 6))
	takes(t, "below the base", follower(), ask(1, 1, 9), heard(nothing), tell(true, 3))
	takes(t, "over the base", follower(), ask(1, 1, 9, list(2, 1, 2, 2, 3, 5, 5, 5)...), heard(func(r *api.Raft) { r.Log, r.Commit = logOf(3, 2, 2, 3, 5, 5, 5), 8 }), tell(true, 8))
	takes(t, "all below the base", follower(), ask(0, 0, 9, list(1, 1, 1)...), heard(nothing), tell(true, 3))
	// Misses.
	takes(t, "a gap", follower(), ask(12, 5, 9), heard(nothing), tell(false, 7))
	takes(t, "the next one is missing", follower(), ask(8, 5, 9), heard(nothing), tell(false, 7))
	takes(t, "another term", follower(), ask(7, 4, 9), heard(nothing), tell(false, 6))
	takes(t, "another term there", follower(), ask(6, 4, 9, list(7, 5)...), heard(nothing), tell(false, 5))
	takes(t, "another base", change(follower(), func(r *api.Raft) { r.Log, r.Snap, r.Commit = api.Log{BaseTerm: 1}, "", 0 }), ask(0, 0, 0), heard(nothing), tell(false, 0))
	// Nothing more happens.
	takes(t, "a committed entry would go", follower(), ask(3, 2, 9, list(4, 2, 4)...), heard(nothing))
	takes(t, "an invalid log", follower(), ask(1, 1, 9, list(2, 1, 1, 1)...), heard(nothing))
	full := change(follower(), func(r *api.Raft) { r.Log = logOf(3, 2, slices.Repeat([]int{5}, api.MaxEntries)...) })
	takes(t, "a full log", full, ask(515, 5, 515, list(516, 5)...), heard(nothing))
	takes(t, "a full log, nothing new", full, ask(515, 5, 515), commit(515), tell(true, 515))
	// Other roles.
	takes(t, "a candidate", candidate(), ask(7, 5, 5), func(r *api.Raft) { stepsDown(r, 5); r.Leader, r.Elapsed = 1, 0 }, tell(true, 7))
	takes(t, "a leader", leader(), ask(7, 5, 7), nothing)
	part := change(follower(), func(r *api.Raft) { r.Part, r.PartOf = "x", 9 })
	takes(t, "a part stays", part, ask(7, 5, 5), heard(nothing), tell(true, 7))
}

// P26.3: AskSnap.
func TestAskSnap(t *testing.T) {
	ask := func(index, term, at int, data string, done bool) api.Rpc {
		return api.Rpc{Kind: api.AskSnap, From: 1, To: 2, Term: 5, Index: index, LogTerm: term, At: at, Data: data, Done: done, Round: 6}
	}
	tell := func(index int) api.Rpc {
		return api.Rpc{Kind: api.TellAppend, From: 2, To: 1, Term: 5, Ok: true, Index: index, Round: 6}
	}
	told := func(index, at int) api.Rpc {
		return api.Rpc{Kind: api.TellSnap, From: 2, To: 1, Term: 5, Index: index, At: at, Round: 6}
	}
	heard := func(f func(r *api.Raft)) func(r *api.Raft) {
		return func(r *api.Raft) { r.Leader, r.Elapsed = 1, 0; f(r) }
	}
	part := func(s string, of int) func(r *api.Raft) {
		return heard(func(r *api.Raft) { r.Part, r.PartOf = s, of })
	}
	collecting := change(follower(), func(r *api.Raft) { r.Part, r.PartOf = "abc", 9 })
	takes(t, "a part", follower(), ask(9, 5, 0, "abc", false), part("abc", 9), told(9, 3))
	takes(t, "the next part", collecting, ask(9, 5, 3, "de", false), part("abcde", 9), told(9, 5))
	takes(t, "an empty part", collecting, ask(9, 5, 3, "", false), heard(nothing), told(9, 3))
	takes(t, "a part again", collecting, ask(9, 5, 0, "abc", false), heard(nothing), told(9, 3))
	takes(t, "a part too far", collecting, ask(9, 5, 4, "de", true), heard(nothing), told(9, 3))
	takes(t, "a part of another", collecting, ask(10, 5, 0, "xy", false), part("xy", 10), told(10, 2))
	takes(t, "a late part of another", collecting, ask(10, 5, 3, "xy", true), part("", 10), told(10, 0))
	// Installed.
	installed := func(base, term int, snap string, terms ...int) func(r *api.Raft) {
		return heard(func(r *api.Raft) {
			r.Log, r.Snap, r.Commit, r.Part, r.PartOf = api.Log{Base: base, BaseTerm: term, Entries: list(base+1, terms...)}, snap, base, "", 0
		})
	}
	takes(t, "the last part", collecting, ask(9, 5, 3, "de", true), installed(9, 5, "abcde"), tell(9))
	takes(t, "all in one", follower(), ask(9, 4, 0, "x", true), installed(9, 4, "x"), tell(9))
	takes(t, "nothing in one", follower(), ask(9, 4, 0, "", true), installed(9, 4, ""), tell(9))
	takes(t, "inside the log", follower(), ask(6, 5, 0, "x", true), installed(6, 5, "x", 5), tell(6))
	takes(t, "at the end of the log", follower(), ask(7, 5, 0, "x", true), installed(7, 5, "x"), tell(7))
	takes(t, "inside the log, another term", follower(), ask(6, 4, 0, "x", true), installed(6, 4, "x"), tell(6))
	takes(t, "the greatest index", follower(), ask(maxBase, 5, 0, "x", true), installed(maxBase, 5, "x"), tell(maxBase))
	// Not needed.
	takes(t, "committed", follower(), ask(5, 3, 0, "x", true), heard(nothing), tell(5))
	takes(t, "below the base", collecting, ask(1, 3, 0, "x", true), heard(nothing), tell(5))
	takes(t, "an older term", collecting, ask(9, 2, 3, "x", true), heard(nothing), tell(5))
	// Too much.
	long := change(collecting, func(r *api.Raft) { r.Part = strings.Repeat("x", api.MaxSnap-1) })
	takes(t, "too much", long, ask(9, 5, api.MaxSnap-1, "xx", true), heard(nothing), told(9, api.MaxSnap-1))
	takes(t, "just enough", long, ask(9, 5, api.MaxSnap-1, "x", true), installed(9, 5, strings.Repeat("x", api.MaxSnap)), tell(9))
	// Other roles.
	takes(t, "a leader", leader(), ask(9, 5, 0, "x", true), nothing)
	takes(t, "a candidate", candidate(), ask(9, 5, 0, "x", false), func(r *api.Raft) {
		stepsDown(r, 5)
		r.Leader, r.Elapsed, r.Part, r.PartOf = 1, 0, "x", 9
	}, told(9, 1))
}

// P26.3: TellAppend.
func TestTellAppend(t *testing.T) {
	tell := func(from int, ok bool, index int) api.Rpc {
		return api.Rpc{Kind: api.TellAppend, From: from, To: 2, Term: 5, Ok: ok, Index: index, Round: 4}
	}
	ask := func(to, index, term, commit int, es ...api.Entry) api.Rpc {
		return api.Rpc{Kind: api.AskAppend, From: 2, To: to, Term: 5, Index: index, LogTerm: term, Commit: commit, Round: 4, Entries: es}
	}
	l := change(leader(), func(r *api.Raft) { r.Next, r.Match, r.Sent = []int{6, 4, 6}, []int{0, 7, 0}, []int{3, 0, 5} })
	progress := func(id, next, match, commit int) func(r *api.Raft) {
		return func(r *api.Raft) { r.Next[id-1], r.Match[id-1], r.Sent[id-1], r.Commit = next, match, 0, commit }
	}
	takes(t, "all is there", l, tell(3, true, 7), progress(3, 8, 7, 7))
	takes(t, "most is there", l, tell(3, true, 6), progress(3, 7, 6, 6), ask(3, 6, 5, 6, list(7, 5)...))
	takes(t, "only what older terms made", l, tell(3, true, 5), progress(3, 6, 5, 5), ask(3, 5, 3, 5, list(6, 5, 5)...))
	takes(t, "beyond the log", l, tell(3, true, 8), nothing)
	older := change(l, func(r *api.Raft) { r.Log, r.Commit = logOf(3, 2, 2, 3, 3, 3), 4 })
	takes(t, "no entry of this term", older, tell(3, true, 7), progress(3, 8, 7, 4))
	ahead := change(l, func(r *api.Raft) { r.Next[2], r.Match[2] = 8, 7 })
	takes(t, "an old answer", ahead, tell(3, true, 5), func(r *api.Raft) { r.Sent[2], r.Commit = 0, 7 })
	takes(t, "below the base", l, tell(3, true, 1), progress(3, 2, 1, 5), api.Rpc{Kind: api.AskSnap, From: 2, To: 3, Term: 5, Index: 3, LogTerm: 2, Data: "snapshot", Done: true, Round: 4})
	own := change(l, func(r *api.Raft) { r.Match[1] = 0 })
	takes(t, "the leader's own element", own, tell(3, true, 7), func(r *api.Raft) { progress(3, 8, 7, 7)(r); r.Match[1] = 7 })
	five := change(l, func(r *api.Raft) {
		r.Nodes, r.Next, r.Match, r.Sent = 5, []int{6, 4, 6, 6, 6}, []int{0, 7, 0, 0, 0}, make([]int, 5)
	})
	takes(t, "two of five", five, tell(3, true, 7), progress(3, 8, 7, 5))
	takes(t, "three of five", change(five, func(r *api.Raft) { r.Match[4] = 6 }), tell(3, true, 7), progress(3, 8, 7, 6))
	// Refused.
	takes(t, "refused", l, tell(3, false, 4), progress(3, 5, 0, 5), ask(3, 4, 2, 5, list(5, 3, 5, 5)...))
	takes(t, "refused, further on", l, tell(3, false, 100), progress(3, 5, 0, 5), ask(3, 4, 2, 5, list(5, 3, 5, 5)...))
	takes(t, "refused, far back", l, tell(3, false, 0), progress(3, 1, 0, 5), api.Rpc{Kind: api.AskSnap, From: 2, To: 3, Term: 5, Index: 3, LogTerm: 2, Data: "snapshot", Done: true, Round: 4})
	matched := change(l, func(r *api.Raft) { r.Match[2] = 4 })
	takes(t, "refused, behind what is known", matched, tell(3, false, 1), progress(3, 5, 4, 5), ask(3, 4, 2, 5, list(5, 3, 5, 5)...))
	lowest := change(l, func(r *api.Raft) { r.Next[2] = 1 })
	takes(t, "refused at the first", lowest, tell(3, false, 0), progress(3, 1, 0, 5), api.Rpc{Kind: api.AskSnap, From: 2, To: 3, Term: 5, Index: 3, LogTerm: 2, Data: "snapshot", Done: true, Round: 4})
	// Other roles.
	takes(t, "a follower", follower(), tell(3, true, 7), nothing)
	takes(t, "a candidate", candidate(), tell(3, false, 7), nothing)
}

// P26.3: TellSnap.
func TestTellSnap(t *testing.T) {
	tell := func(index, at int) api.Rpc {
		return api.Rpc{Kind: api.TellSnap, From: 3, To: 2, Term: 5, Index: index, At: at, Round: 4}
	}
	l := change(leader(), func(r *api.Raft) { r.Next[2], r.Sent[2] = 2, 1 })
	part := func(at int) api.Rpc {
		return api.Rpc{Kind: api.AskSnap, From: 2, To: 3, Term: 5, Index: 3, LogTerm: 2, At: at, Data: "snapshot"[at:], Done: true, Round: 4}
	}
	takes(t, "some is there", l, tell(3, 5), func(r *api.Raft) { r.Sent[2] = 5 }, part(5))
	takes(t, "nothing is there", l, tell(3, 0), func(r *api.Raft) { r.Sent[2] = 0 }, part(0))
	takes(t, "all is there", l, tell(3, 8), func(r *api.Raft) { r.Sent[2] = 8 }, part(8))
	takes(t, "more than there is", l, tell(3, 9), nothing)
	takes(t, "another snapshot", l, tell(4, 5), nothing)
	takes(t, "an older snapshot", l, tell(2, 5), nothing)
	takes(t, "the snapshot ends where the next entry is", change(l, func(r *api.Raft) { r.Next[2] = 3 }), tell(3, 5), func(r *api.Raft) { r.Sent[2] = 5 }, part(5))
	takes(t, "not needed any more", change(l, func(r *api.Raft) { r.Next[2] = 4 }), tell(3, 5), nothing)
	takes(t, "a follower", follower(), tell(3, 5), nothing)
	takes(t, "a candidate", candidate(), tell(3, 5), nothing)
}

// P26.3, P26.6: answers confirm the reads of their round and of earlier ones.
func TestAcks(t *testing.T) {
	l := change(leader(), func(r *api.Raft) {
		r.Next[2] = 2
		r.Reads = []api.Read{{ID: 1, Round: 2, Acks: []int{2}}, {ID: 2, Round: 3, Acks: []int{2, 3}}, {ID: 3, Round: 4, Acks: []int{2}}}
	})
	acked := func(r *api.Raft) { r.Reads[0].Acks = []int{1, 2}; r.Reads[1].Acks = []int{1, 2, 3} }
	takes(t, "beyond the log", l, api.Rpc{Kind: api.TellAppend, From: 1, To: 2, Term: 5, Ok: true, Index: 99, Round: 3}, acked)
	takes(t, "another snapshot", l, api.Rpc{Kind: api.TellSnap, From: 1, To: 2, Term: 5, Index: 9, Round: 3}, acked)
	takes(t, "the last round", l, api.Rpc{Kind: api.TellSnap, From: 3, To: 2, Term: 5, Index: 9, Round: 9}, func(r *api.Raft) {
		r.Reads[0].Acks, r.Reads[2].Acks = []int{2, 3}, []int{2, 3}
	})
	takes(t, "an earlier round", l, api.Rpc{Kind: api.TellSnap, From: 1, To: 2, Term: 5, Index: 9, Round: 1}, nothing)
	takes(t, "refused", l, api.Rpc{Kind: api.TellAppend, From: 1, To: 2, Term: 5, Index: 7, Round: 2}, func(r *api.Raft) {
		r.Reads[0].Acks, r.Next[0] = []int{1, 2}, 8
	}, api.Rpc{Kind: api.AskAppend, From: 2, To: 1, Term: 5, Index: 7, LogTerm: 5, Commit: 5, Round: 4})
}

// P26.4: Propose.
func TestPropose(t *testing.T) {
	l := change(leader(), func(r *api.Raft) { r.Next, r.Match = []int{8, 4, 6}, []int{7, 7, 5} })
	got, out, n, e := raft.Propose(l, "data")
	want := change(l, func(r *api.Raft) {
		r.Log.Entries = append(r.Log.Entries, api.Entry{Index: 8, Term: 5, Data: "data"})
		r.Match[1], r.Commit = 8, 7
	})
	msg := api.Rpc{Kind: api.AskAppend, From: 2, To: 1, Term: 5, Index: 7, LogTerm: 5, Commit: 5, Round: 4, Entries: []api.Entry{{Index: 8, Term: 5, Data: "data"}}}
	if e != api.OK || n != 8 || !same(got, want) || !same(out, []api.Rpc{msg}) {
		t.Errorf("Propose: %d, %v\n%+v\n%+v", n, e, got, out)
	}
	one := api.Raft{ID: 1, Nodes: 1, Role: api.Leader, Term: 1, Next: []int{1}, Match: []int{0}, Sent: []int{0}}
	if r, out, n, e := raft.Propose(one, strings.Repeat("x", api.MaxEntry)); e != api.OK || n != 1 || r.Commit != 1 || len(out) != 0 || r.Next[0] != 1 {
		t.Errorf("alone: %d, %v, %v", n, e, out)
	}
	full := change(l, func(r *api.Raft) { r.Log = logOf(3, 2, slices.Repeat([]int{5}, api.MaxEntries)...) })
	long := strings.Repeat("x", api.MaxEntry+1)
	for i, c := range []struct {
		r    api.Raft
		data string
		e    api.Errno
	}{
		{l, long, api.ErrForm}, {follower(), long, api.ErrForm}, {full, long, api.ErrForm},
		{follower(), "", api.ErrState}, {candidate(), "", api.ErrState}, {full, "", api.ErrFull},
		{change(full, func(r *api.Raft) { stepsDown(r, 5) }), "", api.ErrState},
	} {
		if r, out, n, e := raft.Propose(c.r, c.data); e != c.e || n != 0 || len(out) != 0 || !same(r, api.Raft{}) {
			t.Errorf("case %d: %d, %v, not %v", i, n, e, c.e)
		}
	}
}

// P26.5: Compact.
func TestCompact(t *testing.T) {
	l := change(leader(), func(r *api.Raft) { r.Sent = []int{1, 2, 3} })
	for _, i := range []int{4, 5} {
		for _, r := range []api.Raft{follower(), candidate(), l} {
			want := change(r, func(r *api.Raft) {
				r.Log = api.Log{Base: i, BaseTerm: i - 2, Entries: r.Log.Entries[i-3:]}
				r.Snap = "new"
				clear(r.Sent)
			})
			if got, e := raft.Compact(r, i, "new"); e != api.OK || !same(got, want) || raft.Check(got) != api.OK {
				t.Errorf("Compact(%d): %v\n%+v, not\n%+v", i, e, got, want)
			}
		}
	}
	for _, i := range []int{3, 2, 0, -1, 6, 7, 8, -1 << 63, 1<<63 - 1} {
		if got, e := raft.Compact(follower(), i, ""); e != api.ErrForm || !same(got, api.Raft{}) {
			t.Errorf("Compact(%d): %v", i, e)
		}
	}
	great := change(follower(), func(r *api.Raft) {
		r.Log, r.Commit = logOf(maxBase-1, 2, 2, 2), maxBase+1
	})
	if got, e := raft.Compact(great, maxBase, strings.Repeat("x", api.MaxSnap)); e != api.OK || got.Log.Base != maxBase {
		t.Errorf("the greatest base: %v", e)
	}
	if _, e := raft.Compact(great, maxBase+1, ""); e != api.ErrForm {
		t.Errorf("beyond the greatest base: %v", e)
	}
	if _, e := raft.Compact(great, maxBase, strings.Repeat("x", api.MaxSnap+1)); e != api.ErrForm {
		t.Errorf("a snapshot that is too long: %v", e)
	}
}

// P26.6: Read.
func TestRead(t *testing.T) {
	l := change(leader(), func(r *api.Raft) { r.Commit = 6; r.Reads = []api.Read{{ID: 9, Round: 1, Acks: []int{2}}} })
	got, out, e := raft.Read(l, 9)
	want := change(l, func(r *api.Raft) {
		r.Round = 5
		r.Reads = append(r.Reads, api.Read{ID: 9, Index: 6, Round: 5, Acks: []int{2}})
	})
	msgs := []api.Rpc{
		{Kind: api.AskAppend, From: 2, To: 1, Term: 5, Index: 7, LogTerm: 5, Commit: 6, Round: 5},
		{Kind: api.AskAppend, From: 2, To: 3, Term: 5, Index: 5, LogTerm: 3, Commit: 6, Round: 5, Entries: list(6, 5, 5)},
	}
	if e != api.OK || !same(got, want) || !same(out, msgs) {
		t.Errorf("Read: %v\n%+v\n%+v", e, got, out)
	}
	many := change(l, func(r *api.Raft) { r.Reads = slices.Repeat(r.Reads, api.MaxReads) })
	last := change(l, func(r *api.Raft) { r.Round = end - 1 })
	compacted := change(l, func(r *api.Raft) { r.Log, r.Commit = logOf(7, 5), 7 })
	for i, c := range []struct {
		r  api.Raft
		id int
		e  api.Errno
	}{
		{l, 1, api.OK}, {l, end, api.OK}, {compacted, 1, api.OK},
		{l, 0, api.ErrForm}, {l, -1, api.ErrForm}, {l, end + 1, api.ErrForm}, {follower(), 0, api.ErrForm},
		{follower(), 1, api.ErrState}, {candidate(), 1, api.ErrState},
		{change(l, func(r *api.Raft) { r.Commit = 5 }), 1, api.ErrState},
		{change(many, func(r *api.Raft) { r.Commit = 5 }), 1, api.ErrState},
		{many, 1, api.ErrFull}, {last, 1, api.ErrFull},
		{change(many, func(r *api.Raft) { r.Reads = r.Reads[1:] }), 1, api.OK},
	} {
		r, out, e := raft.Read(c.r, c.id)
		if e != c.e || e != api.OK && (len(out) != 0 || !same(r, api.Raft{})) {
			t.Errorf("case %d: %v, not %v", i, e, c.e)
		}
	}
}

// P26.6: Ready.
func TestReady(t *testing.T) {
	reads := []api.Read{{ID: 1, Acks: []int{2}}, {ID: 2, Index: 5, Round: 1, Acks: []int{1, 2}}, {ID: 3, Acks: []int{3}}, {ID: 4, Round: 4, Acks: []int{1, 2, 3}}}
	l := change(leader(), func(r *api.Raft) { r.Reads = reads })
	got, ready, e := raft.Ready(l)
	want := change(l, func(r *api.Raft) { r.Reads = []api.Read{reads[0], reads[2]} })
	if e != api.OK || !same(got, want) || !same(ready, []api.Read{reads[1], reads[3]}) {
		t.Errorf("%v, %+v, %+v", e, ready, got.Reads)
	}
	for _, r := range []api.Raft{follower(), candidate(), leader()} {
		if got, ready, e := raft.Ready(r); e != api.OK || len(ready) != 0 || !same(got, r) {
			t.Errorf("%v, %+v", e, ready)
		}
	}
	one := api.Raft{ID: 1, Nodes: 1, Role: api.Leader, Term: 1, Log: logOf(0, 0, 1), Commit: 1, Next: []int{1}, Match: []int{1}, Sent: []int{0}}
	one, _, e = raft.Read(one, 5)
	if _, ready, f := raft.Ready(one); e != api.OK || f != api.OK || len(ready) != 1 || ready[0].Index != 1 {
		t.Errorf("alone: %+v, %v, %v", ready, e, f)
	}
}

// R2: the returned state and the messages share nothing with the argument, nor with each other.
func TestMemory(t *testing.T) {
	l := change(leader(), func(r *api.Raft) {
		r.Elapsed, r.Votes = 1, []int{1, 2}
		r.Next = []int{5, 5, 5}
		r.Reads = []api.Read{{ID: 1, Acks: []int{2}}}
	})
	l.Log.Entries = append(make([]api.Entry, 0, 9), l.Log.Entries...)
	want := change(l, nothing)
	spoil := func(r api.Raft, out []api.Rpc) {
		for _, m := range out {
			for i := range m.Entries {
				m.Entries[i].Data = "other"
			}
		}
		for i := range r.Log.Entries {
			r.Log.Entries[i].Term = 77
		}
		for _, list := range [][]int{r.Votes, r.Next, r.Match, r.Sent} {
			for i := range list {
				list[i] = 77
			}
			_ = append(list, 77)
		}
		for i := range r.Reads {
			r.Reads[i].Acks[0] = 77
			r.Reads[i].ID = 77
		}
	}
	a, out, _ := raft.Tick(l)
	if first, second := out[0].Entries, out[1].Entries; len(first) > 0 {
		first[0].Data = "other"
		if second[0].Data == "other" || a.Log.Entries[1].Data == "other" {
			t.Errorf("messages share their entries")
		}
	}
	spoil(a, out)
	b, out, _, _ := raft.Propose(l, "x")
	spoil(b, out)
	c, out, _ := raft.Read(change(l, func(r *api.Raft) { r.Commit = 6 }), 5)
	spoil(c, out)
	d, ready, _ := raft.Ready(l)
	spoil(d, nil)
	for _, q := range ready {
		q.Acks[0] = 77
	}
	f, out, _ := raft.Take(l, api.Rpc{Kind: api.TellAppend, From: 1, To: 2, Term: 5, Round: 9})
	spoil(f, out)
	g, _ := raft.Compact(l, 5, "x")
	spoil(g, nil)
	if !same(l, want) {
		t.Errorf("%+v, not\n%+v", l, want)
	}
}
