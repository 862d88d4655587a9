package node_test

import (
	"fmt"
	"testing"

	"lectern/api"
	"lectern/node"
)

// script is what happens to node 2 of 3: votes, entries, other entries in their place, a compaction, a snapshot.
func script(t *testing.T) []api.Rpc {
	b := snapshot(t, 60)
	var other []api.Entry
	for i := 7; i <= 9; i++ {
		other = append(other, api.Entry{Index: i, Term: 3, Data: fmt.Sprintf("other %d", i)})
	}
	var more []api.Entry
	for i := 41; i <= 45; i++ {
		more = append(more, entry(t, i, 4))
	}
	l := []api.Rpc{
		{Kind: api.AskVote, Term: 1},
		{Kind: api.AskAppend, Term: 1, Entries: entries(t, 1, 8, 1), Commit: 2},
		{Kind: api.AskAppend, Term: 2, Index: 8, LogTerm: 1, Commit: 4},
		{Kind: api.AskAppend, Term: 3, Index: 6, LogTerm: 1, Commit: 6, Entries: other},
		{Kind: api.AskVote, Term: 4, Index: 8, LogTerm: 3},
		{Kind: api.AskVote, Term: 4, Index: 9, LogTerm: 3},
		{Kind: api.AskAppend, Term: 4, Index: 6, LogTerm: 1, Commit: 6, Entries: entries(t, 7, 20, 4)},
		{Kind: api.AskAppend, Term: 4, Index: 20, LogTerm: 4, Commit: 20, Entries: entries(t, 21, 36, 4)},
		{Kind: api.AskAppend, Term: 4, Index: 36, LogTerm: 4, Commit: 36, Entries: entries(t, 37, 40, 4)},
		{Kind: api.AskAppend, Term: 4, Index: 40, LogTerm: 4, Commit: 41, Entries: more},
		{Kind: api.AskSnap, Term: 5, Index: 60, LogTerm: 5, Data: b[:100]},
		{Kind: api.AskSnap, Term: 5, Index: 60, LogTerm: 5, At: 100, Data: b[100:], Done: true},
		{Kind: api.AskAppend, Term: 5, Index: 60, LogTerm: 5, Commit: 60, Entries: entries(t, 61, 64, 5)},
		{Kind: api.AskSnap, Term: 6, Index: 62, LogTerm: 5, Data: snapshot(t, 62), Done: true},
	}
	for i := range l {
		l[i].From, l[i].To = 1, 2
	}
	return l
}

// history is the consensus state ahead of the first message and after each one.
func history(t *testing.T, l []api.Rpc) []api.Raft {
	t.Helper()
	d := newDisk(t, nil)
	n := open(t, d, 2, 3)
	states := []api.Raft{n.Raft()}
	for i, m := range l {
		if _, e := n.Take(m); e != api.OK {
			t.Fatalf("message %d: %v", i, e)
		}
		checkKept(t, n, d)
		states = append(states, n.Raft())
	}
	return states
}

func find(l api.Log, index int) (api.Entry, bool) {
	if i := index - l.Base - 1; i >= 0 && i < len(l.Entries) {
		return l.Entries[i], true
	}
	return api.Entry{}, false
}

// between checks that what is found was there before a step or would be after it, and that nothing is missing that is there in both.
func between(t *testing.T, what string, got, before, after api.Raft) {
	t.Helper()
	vote := [2]int{got.Term, got.Vote}
	if vote != [2]int{before.Term, before.Vote} && vote != [2]int{after.Term, after.Vote} {
		t.Fatalf("%s: term and vote %v", what, vote)
	}
	base := got.Log.Base
	if base != before.Log.Base && base != after.Log.Base || got.Snap != before.Snap && got.Snap != after.Snap || got.Commit != base {
		t.Fatalf("%s: base %d, commit %d", what, base, got.Commit)
	}
	for _, e := range got.Log.Entries {
		a, _ := find(before.Log, e.Index)
		b, _ := find(after.Log, e.Index)
		if e != a && e != b {
			t.Fatalf("%s: entry %v", what, e)
		}
	}
	for _, e := range after.Log.Entries {
		if old, _ := find(before.Log, e.Index); old == e {
			if g, _ := find(got.Log, e.Index); g != e && e.Index > base {
				t.Fatalf("%s: entry %v is lost", what, e)
			}
		}
	}
}

// dead checks that a node without power does nothing.
func dead(t *testing.T, what string, n *node.Node) {
	t.Helper()
	out, a := n.Tick()
	more, b := n.Take(api.Rpc{Kind: api.AskVote, From: 1, To: 2, Term: 99})
	_, c := n.Take(api.Rpc{})
	rest, d := n.Ask(77, openSession())
	_, e := n.Ask(0, api.Request{})
	for i, e := range []api.Errno{a, b, c, d, e} {
		if e != api.ErrPower {
			t.Fatalf("%s: call %d without power: %v", what, i, e)
		}
	}
	if len(out)+len(more)+len(rest) > 0 || len(n.Told()) > 0 || !n.Lost() {
		t.Fatalf("%s: a node without power talks", what)
	}
}

// P28.3, T3: the power fails at every call of the disk; the node is as it was, and what a restart finds is its state before or after the call.
func TestPowerFails(t *testing.T) {
	l := script(t)
	states := history(t, l)
	for off := 1; ; off++ {
		d := newDisk(t, nil)
		n := open(t, d, 2, 3)
		d.Off(off)
		failed := -1
		state := n.State()
		for i, m := range l {
			out, e := n.Take(m)
			if e == api.OK {
				state = n.State()
				continue
			}
			if failed = i; e != api.ErrPower || len(out) > 0 || show(n.Raft()) != show(states[i]) || show(n.State()) != show(state) {
				t.Fatalf("off at %d, message %d: %v, %+v\n%+v, not\n%+v", off, i, e, out, n.Raft(), states[i])
			}
			break
		}
		if failed < 0 {
			break
		}
		dead(t, fmt.Sprintf("off at %d", off), n)
		for pick := range 20 {
			what := fmt.Sprintf("off at %d, pick %d", off, pick)
			files := d.Crash([]int{pick, pick, pick, pick})
			again := open(t, newDisk(t, files), 2, 3)
			between(t, what, again.Raft(), states[failed], states[failed+1])
			reopen(t, what, files, again)
			if pick%5 == 0 {
				goOn(t, what, again, l, states[len(states)-1])
			}
		}
	}
}

// reopen lets the power fail also while the node is opened.
func reopen(t *testing.T, what string, files []api.File, n *node.Node) {
	t.Helper()
	for off := 1; ; off++ {
		d := newDisk(t, files)
		d.Off(off)
		m, e := node.Open(d, 2, 3, 7)
		if e == api.OK {
			if show(m.Raft()) != show(n.Raft()) || show(m.State()) != show(n.State()) {
				t.Fatalf("%s: opened twice: %+v, not %+v", what, m.Raft(), n.Raft())
			}
			return
		}
		if m != nil || e != api.ErrPower {
			t.Fatalf("%s: Open: %v, %v", what, m, e)
		}
		again := open(t, newDisk(t, d.Crash([]int{off, off, off})), 2, 3)
		if kept(again.Raft()) != kept(n.Raft()) {
			t.Fatalf("%s: after two crashes: %+v, not %+v", what, again.Raft(), n.Raft())
		}
	}
}

// goOn sends all messages once more; what the node keeps is then what it would have been.
func goOn(t *testing.T, what string, n *node.Node, l []api.Rpc, last api.Raft) {
	t.Helper()
	for i, m := range l {
		if _, e := n.Take(m); e != api.OK {
			t.Fatalf("%s: message %d again: %v", what, i, e)
		}
	}
	if r := n.Raft(); kept(r) != kept(last) || r.Commit != last.Commit {
		t.Fatalf("%s: went on to %s, not %s", what, kept(r), kept(last))
	}
}

// T3: what a node that is alone has answered is in its log after every crash.
func TestAnsweredStays(t *testing.T) {
	for off := 1; off < 400; off++ {
		d := newDisk(t, nil)
		n := open(t, d, 1, 1)
		d.Off(off)
		acknowledged := alone(t, n)
		if !n.Lost() {
			break
		}
		for pick := range 5 {
			again := open(t, newDisk(t, d.Crash([]int{pick, pick, pick})), 1, 1)
			for range 20 {
				if _, e := again.Tick(); e != api.OK {
					t.Fatalf("Tick: %v", e)
				}
			}
			if docs := len(again.State().Docs); docs < acknowledged || docs > acknowledged+1 {
				t.Fatalf("off at %d, pick %d: %d documents, %d were acknowledged", off, pick, docs, acknowledged)
			}
		}
	}
}

// alone makes requests to a node that is alone, until its power fails. It returns how many documents were acknowledged.
func alone(t *testing.T, n *node.Node) int {
	t.Helper()
	for range 20 {
		if _, e := n.Tick(); e != api.OK {
			return 0
		}
	}
	client := n.State().Index + 1
	if _, e := n.Ask(1, openSession()); e != api.OK {
		return 0
	}
	acknowledged := 0
	for i := range 60 {
		_, e := n.Ask(2+i, add(client, i+1, fmt.Sprintf("d%02d", i), "text"))
		for _, a := range n.Told() {
			if a.Reply.Err != api.OK {
				t.Fatalf("%+v", a)
			}
			if a.N > 1 {
				acknowledged++
			}
		}
		if e != api.OK {
			return acknowledged
		}
	}
	return acknowledged
}

// P28.3: an error of the disk that is not one of power stops the node, too.
func TestNoRoom(t *testing.T) {
	var others []api.File
	for i := range api.MaxFiles {
		others = append(others, api.File{Name: fmt.Sprintf("other-%02d", i)})
	}
	n, e := node.Open(newDisk(t, others), 2, 3, 7)
	if e == api.ErrFull && n == nil {
		return
	}
	if e != api.OK {
		t.Fatalf("Open: %v, %v", n, e)
	}
	before := n.Raft()
	for range 2 {
		if out, e := n.Take(api.Rpc{Kind: api.AskVote, From: 1, To: 2, Term: 1}); e != api.ErrPower || len(out) > 0 || show(n.Raft()) != show(before) {
			t.Errorf("Take: %v, %v", out, e)
		}
	}
	if _, e := n.Tick(); e != api.ErrPower || len(n.Told()) > 0 || n.Lost() {
		t.Errorf("Tick: %v", e)
	}
}
