package node_test

import (
	"fmt"
	"slices"
	"strings"
	"testing"

	"lectern/api"
	"lectern/command"
	"lectern/disk"
	"lectern/image"
	"lectern/node"
	"lectern/raft"
	"lectern/snap"
	"lectern/wal"
)

const end = 1 << 40

// same holds two values against each other; a nil list is an empty one.
func same(a, b any) bool {
	return show(a) == show(b)
}

func show(a any) string {
	return fmt.Sprintf("%+v %+q", a, a)
}

func newDisk(t *testing.T, files []api.File) *disk.Disk {
	t.Helper()
	d, e := disk.New(files)
	if e != api.OK {
		t.Fatalf("disk.New: %v", e)
	}
	return d
}

func open(t *testing.T, d *disk.Disk, id, nodes int) *node.Node {
	t.Helper()
	n, e := node.Open(d, id, nodes, 7)
	if e != api.OK || n == nil {
		t.Fatalf("Open: %v, %v", n, e)
	}
	return n
}

// kept is what must be durable.
func kept(r api.Raft) string {
	return fmt.Sprintf("%d %d %s %q", r.Term, r.Vote, show(r.Log), r.Snap)
}

// checkKept looks at what a crash that loses all that is not durable would leave.
func checkKept(t *testing.T, n *node.Node, d *disk.Disk) {
	t.Helper()
	r := n.Raft()
	again := open(t, newDisk(t, d.Crash(nil)), r.ID, r.Nodes)
	if got := again.Raft(); kept(got) != kept(r) {
		t.Fatalf("after a crash: %s, not\n%s", kept(got), kept(r))
	}
	if again.Raft().Commit != r.Log.Base || again.State().Index != r.Log.Base {
		t.Fatalf("after a crash: Commit %d, Index %d, not %d", again.Raft().Commit, again.State().Index, r.Log.Base)
	}
}

// leader returns a node that is alone and leads, and its disk.
func leader(t *testing.T) (*node.Node, *disk.Disk) {
	t.Helper()
	d := newDisk(t, nil)
	n := open(t, d, 1, 1)
	for range 20 {
		if out, e := n.Tick(); e != api.OK || len(out) != 0 {
			t.Fatalf("Tick: %v, %v", out, e)
		}
		checkKept(t, n, d)
	}
	if n.Raft().Role != api.Leader {
		t.Fatalf("no leader after 20 ticks: %+v", n.Raft())
	}
	return n, d
}

func ask(t *testing.T, n *node.Node, k int, q api.Request) {
	t.Helper()
	if _, e := n.Ask(k, q); e != api.OK {
		t.Fatalf("Ask(%d, %v): %v", k, q, e)
	}
}

func told(t *testing.T, n *node.Node, want ...node.Answer) {
	t.Helper()
	got := n.Told()
	slices.SortFunc(got, func(a, b node.Answer) int { return a.N - b.N })
	if !same(got, want) {
		t.Fatalf("Told: %+v, not %+v", got, want)
	}
	if again := n.Told(); len(again) != 0 {
		t.Fatalf("told twice: %+v", again)
	}
}

func openSession() api.Request { return api.Request{Kind: api.CmdOpen} }

func add(client, seq int, id, text string) api.Request {
	return api.Request{Kind: api.CmdAdd, Client: client, Seq: seq, ID: id, Text: text}
}

func search(p string) api.Request {
	return api.Request{Kind: api.AskSearch, Text: p, Limit: 10}
}

// P28.1: what Open refuses, and what it makes of an empty disk.
func TestOpen(t *testing.T) {
	d := newDisk(t, nil)
	for _, c := range []struct {
		d         *disk.Disk
		id, nodes int
	}{{nil, 1, 1}, {d, 0, 1}, {d, 2, 1}, {d, 1, 0}, {d, 1, 8}, {d, -1, 3}, {d, 8, 8}, {d, 1, -1}} {
		if n, e := node.Open(c.d, c.id, c.nodes, 1); n != nil || e != api.ErrForm {
			t.Errorf("Open(%d, %d): %v, %v", c.id, c.nodes, n, e)
		}
	}
	for id := 1; id <= api.MaxNodes; id++ {
		n, e := node.Open(d, id, api.MaxNodes, 55)
		want, _ := raft.New(id, api.MaxNodes, 55)
		if e != api.OK || !same(n.Raft(), want) || !same(n.State(), api.State{}) || n.Lost() || len(n.Told()) != 0 {
			t.Errorf("Open(%d): %v, %+v", id, e, n.Raft())
		}
	}
	d.Off(0)
	if n, e := node.Open(d, 1, 1, 1); n != nil || e != api.ErrPower {
		t.Errorf("without power: %v, %v", n, e)
	}
	if n, e := node.Open(d, 0, 1, 1); n != nil || e != api.ErrForm {
		t.Errorf("without power, an invalid id: %v, %v", n, e)
	}
}

// The chapter's example, and requests to a node that is alone.
func TestAlone(t *testing.T) {
	n, d := leader(t)
	base := n.Raft().Commit
	ask(t, n, 5, openSession())
	told(t, n, node.Answer{N: 5, Index: base + 1, Reply: api.Reply{N: base + 1}})
	checkKept(t, n, d)
	ask(t, n, end, add(base+1, 1, "a", "xx"))
	ask(t, n, 1, add(base+1, 1, "a", "xx"))
	ask(t, n, 2, add(base+1, 2, "a", "y"))
	ask(t, n, 3, search("x"))
	hits := []api.Hit{{ID: "a"}, {ID: "a", At: 1}}
	told(t, n,
		node.Answer{N: 1, Index: base + 3},
		node.Answer{N: 2, Index: base + 4, Reply: api.Reply{Err: api.ErrThere}},
		node.Answer{N: 3, Index: base + 4, Reply: api.Reply{N: 2, Hits: hits}},
		node.Answer{N: end, Index: base + 2})
	ask(t, n, 4, api.Request{Kind: api.AskSearch, Text: "", Limit: -3})
	ask(t, n, 6, api.Request{Kind: api.CmdClose, Client: 99, Seq: 1})
	told(t, n,
		node.Answer{N: 4, Index: base + 4, Reply: api.Reply{Err: api.ErrEmpty}},
		node.Answer{N: 6, Index: base + 5, Reply: api.Reply{Err: api.ErrSession}})
	checkKept(t, n, d)
	if s := n.State(); s.Index != base+5 || !same(s.Docs, []api.Doc{{ID: "a", Text: "xx"}}) || len(s.Sessions) != 1 {
		t.Errorf("State: %+v", s)
	}
}

// P28.2: what Ask refuses, in which order.
func TestAskErrors(t *testing.T) {
	n, _ := leader(t)
	ask(t, n, 1, openSession())
	n.Told()
	follower := open(t, newDisk(t, nil), 2, 3)
	long := strings.Repeat("x", api.MaxEntry/2)
	bad := []api.Request{
		{}, {Kind: 5}, {Kind: -1}, {Kind: api.CmdOpen, Limit: 1}, {Kind: api.CmdOpen, Client: 1}, add(0, 1, "a", ""), add(1, 0, "a", ""), add(1, end, "a", ""), add(1, 1, "a", long),
		{Kind: api.CmdDelete, Client: 1, Seq: 1, Text: "x"}, {Kind: api.CmdClose, Client: 1, Seq: 1, ID: "x"},
		{Kind: api.AskSearch, Client: 1}, {Kind: api.AskSearch, Seq: 1}, {Kind: api.AskSearch, ID: "a"}, search(long + "x"),
	}
	for _, m := range []*node.Node{n, follower} {
		before, state := m.Raft(), m.State()
		refused := func(k int, q api.Request, want api.Errno) {
			t.Helper()
			if out, e := m.Ask(k, q); e != want || len(out) != 0 {
				t.Errorf("Ask(%d, %.60v): %v, %v, not %v", k, q, out, e, want)
			}
		}
		for _, q := range bad {
			refused(2, q, api.ErrForm)
		}
		for _, k := range []int{0, -1, end + 1, -1 << 63, 1<<63 - 1} {
			refused(k, openSession(), api.ErrForm)
			refused(k, search("x"), api.ErrForm)
			refused(k, bad[0], api.ErrForm)
		}
		if m == n {
			refused(1, openSession(), api.ErrForm)
			refused(1, search("x"), api.ErrForm)
		} else {
			refused(1, openSession(), api.ErrState)
			refused(1, search("x"), api.ErrState)
			refused(1, search(long), api.ErrState)
		}
		if !same(m.Raft(), before) || !same(m.State(), state) || len(m.Told()) != 0 {
			t.Errorf("a refused request changed something")
		}
	}
	ask(t, n, 2, search(long))
	ask(t, n, 3, add(9, 9, "a", long[1:]))
	if len(n.Told()) != 2 {
		t.Errorf("valid requests are not answered")
	}
}

// P28.2: the numbers of requests are those since the node was opened.
func TestNumbers(t *testing.T) {
	n, d := leader(t)
	ask(t, n, 1, openSession())
	again := open(t, d, 1, 1)
	for range 20 {
		again.Tick()
	}
	ask(t, again, 1, search("x"))
	if len(again.Told()) != 1 {
		t.Errorf("the number is taken")
	}
}

// data returns the encoding of a command.
func data(t *testing.T, c api.Command) string {
	t.Helper()
	b, e := command.Bytes(c)
	if e != api.OK {
		t.Fatalf("command.Bytes: %v", e)
	}
	return string(b)
}

// entry returns an entry that opens a session, or adds a document, or is no command.
func entry(t *testing.T, index, term int) api.Entry {
	t.Helper()
	c := api.Entry{Index: index, Term: term}
	switch {
	case index == 1:
		c.Data = data(t, api.Command{Kind: api.CmdOpen})
	case index%5 == 0:
		c.Data = "no command"
	default:
		c.Data = data(t, api.Command{Kind: api.CmdAdd, Client: 1, Seq: index, ID: fmt.Sprintf("d%03d", index), Text: "xx"})
	}
	return c
}

func entries(t *testing.T, from, till, term int) []api.Entry {
	t.Helper()
	var l []api.Entry
	for i := from; i <= till; i++ {
		l = append(l, entry(t, i, term))
	}
	return l
}

// stateAt is the machine's state after entries up to an index.
func stateAt(t *testing.T, index int) api.State {
	t.Helper()
	d := newDisk(t, nil)
	n := open(t, d, 2, 3)
	follow(t, n, d, 1, index, index)
	return n.State()
}

func take(t *testing.T, n *node.Node, d *disk.Disk, m api.Rpc) []api.Rpc {
	t.Helper()
	m.From, m.To = 1, 2
	out, e := n.Take(m)
	if e != api.OK {
		t.Fatalf("Take(%+v): %v", m, e)
	}
	if d != nil {
		checkKept(t, n, d)
	}
	return out
}

// follow hands entries of term 1 to a follower, of which some are committed.
func follow(t *testing.T, n *node.Node, d *disk.Disk, from, till, commit int) {
	t.Helper()
	for i := from; i <= till; i += api.MaxSend {
		prev := 1
		if i == 1 {
			prev = 0
		}
		out := take(t, n, d, api.Rpc{Kind: api.AskAppend, Term: 1, Index: i - 1, LogTerm: prev, Commit: commit, Entries: entries(t, i, min(till, i+api.MaxSend-1), 1)})
		if len(out) != 1 || !out[0].Ok {
			t.Fatalf("entries from %d on: %+v", i, out)
		}
	}
}

// P28.1 to P28.3: a follower applies what is committed and keeps all of it.
func TestFollower(t *testing.T) {
	d := newDisk(t, nil)
	n := open(t, d, 2, 3)
	follow(t, n, d, 1, 12, 0)
	if n.State().Index != 0 || len(n.Raft().Log.Entries) != 12 {
		t.Errorf("applied without a commit: %+v", n.State())
	}
	take(t, n, d, api.Rpc{Kind: api.AskAppend, Term: 1, Index: 12, LogTerm: 1, Commit: 6})
	if s := n.State(); s.Index != 6 || len(s.Docs) != 4 || s.Docs[3].ID != "d006" || len(s.Sessions) != 1 || s.Sessions[0].Seq != 6 {
		t.Errorf("%+v", s)
	}
	// Another leader's entries in place of those that are not committed.
	other := []api.Entry{{Index: 7, Term: 3, Data: "x"}, {Index: 8, Term: 3}}
	out := take(t, n, d, api.Rpc{Kind: api.AskAppend, Term: 3, Index: 6, LogTerm: 1, Commit: 8, Entries: other})
	if s := n.State(); s.Index != 8 || len(s.Docs) != 4 || len(out) != 1 || !out[0].Ok || out[0].Index != 8 {
		t.Errorf("%+v, %+v", s, out)
	}
	if out := take(t, n, d, api.Rpc{Kind: api.AskVote, Term: 9, Index: 8, LogTerm: 3}); len(out) != 1 || !out[0].Ok || n.Raft().Vote != 1 || n.Raft().Term != 9 {
		t.Errorf("%+v", out)
	}
	// A vote in a term that is known already.
	if out := take(t, n, d, api.Rpc{Kind: api.AskVote, Term: 10, Index: 7, LogTerm: 3}); len(out) != 1 || out[0].Ok || n.Raft().Vote != 0 || n.Raft().Term != 10 {
		t.Errorf("%+v", out)
	}
	if out := take(t, n, d, api.Rpc{Kind: api.AskVote, Term: 10, Index: 8, LogTerm: 3}); len(out) != 1 || !out[0].Ok || n.Raft().Vote != 1 {
		t.Errorf("%+v", out)
	}
	before := n.Raft()
	for _, m := range []api.Rpc{{}, {Kind: api.AskVote, From: 1, To: 3, Term: 9}, {Kind: api.AskAppend, From: 1, To: 2, Term: 9, LogTerm: 10}, {Kind: api.TellVote, From: 4, To: 2, Term: 10}} {
		if out, e := n.Take(m); e != api.ErrForm || len(out) != 0 || !same(n.Raft(), before) {
			t.Errorf("Take(%+v): %v, %v", m, out, e)
		}
	}
}

// P28.2: the log is compacted as soon as Commit is Snaps above its base.
func TestCompact(t *testing.T) {
	d := newDisk(t, nil)
	n := open(t, d, 2, 3)
	follow(t, n, d, 1, 40, 31)
	if r := n.Raft(); r.Log.Base != 0 || r.Commit != 31 {
		t.Errorf("base %d, commit %d", r.Log.Base, r.Commit)
	}
	take(t, n, d, api.Rpc{Kind: api.AskAppend, Term: 1, Index: 40, LogTerm: 1, Commit: 32})
	want := stateAt(t, 30)
	r := n.Raft()
	s, e := image.Parse([]byte(r.Snap))
	if e != api.OK || r.Log.Base != 32 || r.Log.BaseTerm != 1 || len(r.Log.Entries) != 8 || s.Index != 32 || !same(s, n.State()) || len(s.Docs) != len(want.Docs)+2 {
		t.Errorf("%v, base %d, state %+v", e, r.Log.Base, s)
	}
	take(t, n, d, api.Rpc{Kind: api.AskAppend, Term: 1, Index: 40, LogTerm: 1, Commit: 40})
	again := open(t, newDisk(t, d.Crash(nil)), 2, 3)
	if r := again.Raft(); r.Commit != 32 || !same(again.State(), s) || len(r.Log.Entries) != 8 {
		t.Errorf("opened anew: commit %d, %+v", r.Commit, again.State())
	}
	take(t, again, nil, api.Rpc{Kind: api.AskAppend, Term: 1, Index: 40, LogTerm: 1, Commit: 40})
	if !same(again.State(), n.State()) || n.State().Index != 40 {
		t.Errorf("%+v, not %+v", again.State(), n.State())
	}
	follow(t, n, d, 41, 100, 100)
	if r := n.Raft(); r.Log.Base != 72 || r.Commit != 100 {
		t.Errorf("base %d, commit %d", r.Log.Base, r.Commit)
	}
}

// snapshot is an image up to an index.
func snapshot(t *testing.T, index int) string {
	t.Helper()
	b, e := image.Bytes(stateAt(t, index))
	if e != api.OK {
		t.Fatalf("image.Bytes: %v", e)
	}
	return string(b)
}

// P28.2: a snapshot that comes is installed, in parts.
func TestInstall(t *testing.T) {
	b := snapshot(t, 30)
	half := len(b) / 2
	for _, have := range []int{0, 10, 28, 30, 31} {
		d := newDisk(t, nil)
		n := open(t, d, 2, 3)
		follow(t, n, d, 1, have, have/2)
		out := take(t, n, d, api.Rpc{Kind: api.AskSnap, Term: 1, Index: 30, LogTerm: 1, Data: b[:half]})
		if len(out) != 1 || out[0].Kind != api.TellSnap || out[0].At != half || n.State().Index != have/2 {
			t.Fatalf("a part: %+v", out)
		}
		take(t, n, d, api.Rpc{Kind: api.AskSnap, Term: 1, Index: 30, LogTerm: 1, At: half, Data: b[half:], Done: true})
		r := n.Raft()
		if r.Log.Base != 30 || r.Commit != 30 || r.Snap != b || len(r.Log.Entries) != max(0, have-30) || !same(n.State(), stateAt(t, 30)) {
			t.Fatalf("with %d entries: base %d, %d entries, %+v", have, r.Log.Base, len(r.Log.Entries), n.State())
		}
		follow(t, n, d, 31, 35, 35)
		if !same(n.State(), stateAt(t, 35)) {
			t.Fatalf("after it: %+v", n.State())
		}
	}
	// A log that contradicts the snapshot.
	d := newDisk(t, nil)
	n := open(t, d, 2, 3)
	follow(t, n, d, 1, 33, 3)
	take(t, n, d, api.Rpc{Kind: api.AskSnap, Term: 5, Index: 30, LogTerm: 4, Data: b, Done: true})
	if r := n.Raft(); r.Log.Base != 30 || r.Log.BaseTerm != 4 || len(r.Log.Entries) != 0 || r.Term != 5 {
		t.Errorf("%+v", r.Log)
	}
}

// P28.2: bytes that are no image of that index are not installed, and nothing changes.
func TestInstallErrors(t *testing.T) {
	b := snapshot(t, 30)
	d := newDisk(t, nil)
	n := open(t, d, 2, 3)
	follow(t, n, d, 1, 10, 5)
	take(t, n, d, api.Rpc{Kind: api.AskSnap, Term: 1, Index: 29, LogTerm: 1, Data: b[:20]})
	before, state := n.Raft(), n.State()
	for i, m := range []api.Rpc{
		{Index: 29, At: 20, Data: b[20:]},
		{Index: 31, Data: b},
		{Index: 30, Data: b[:len(b)-1]},
		{Index: 30, Data: b + "x"},
		{Index: 30},
		{Index: 30, Data: "no image", Term: 7},
	} {
		m.Kind, m.From, m.To, m.Done, m.LogTerm, m.Term = api.AskSnap, 1, 2, true, 1, max(m.Term, 1)
		if out, e := n.Take(m); e != api.ErrForm || len(out) != 0 || !same(n.Raft(), before) || !same(n.State(), state) {
			t.Errorf("message %d: %v, %v", i, out, e)
		}
	}
	checkKept(t, n, d)
	// What is not needed is not looked at.
	take(t, n, d, api.Rpc{Kind: api.AskSnap, Term: 1, Index: 5, LogTerm: 1, Data: "no image", Done: true})
	take(t, n, d, api.Rpc{Kind: api.AskSnap, Term: 1, Index: 30, LogTerm: 1, Data: b, Done: true})
	if !same(n.State(), stateAt(t, 30)) {
		t.Errorf("%+v", n.State())
	}
}

// elected makes node 2 of 3 leader, in a term of its own.
func elected(t *testing.T, d *disk.Disk) *node.Node {
	t.Helper()
	n := open(t, d, 2, 3)
	var out []api.Rpc
	for len(out) == 0 {
		var e api.Errno
		if out, e = n.Tick(); e != api.OK {
			t.Fatalf("Tick: %v", e)
		}
		checkKept(t, n, d)
	}
	if len(out) != 2 || out[0].Kind != api.AskVote {
		t.Fatalf("no election: %+v", out)
	}
	take(t, n, d, api.Rpc{Kind: api.TellVote, Term: out[0].Term, Ok: true})
	if n.Raft().Role != api.Leader {
		t.Fatalf("no leader: %+v", n.Raft())
	}
	return n
}

// agree lets node 1 confirm all entries, and the leader's round.
func agree(t *testing.T, n *node.Node, d *disk.Disk) []api.Rpc {
	t.Helper()
	r := n.Raft()
	return take(t, n, d, api.Rpc{Kind: api.TellAppend, Term: r.Term, Ok: true, Index: r.Log.Base + len(r.Log.Entries), Round: r.Round})
}

// P28.2: a leader of three answers when a majority has the entry, or has confirmed the round.
func TestLeader(t *testing.T) {
	d := newDisk(t, nil)
	n := elected(t, d)
	if out, e := n.Ask(1, search("x")); e != api.ErrState || len(out) != 0 {
		t.Errorf("a search ahead of the first commit: %v, %v", out, e)
	}
	agree(t, n, d)
	out, e := n.Ask(1, openSession())
	if e != api.OK || len(out) != 1 || len(out[0].Entries) != 1 {
		t.Fatalf("Ask: %+v, %v", out, e)
	}
	told(t, n)
	out, e = n.Ask(2, search("x"))
	if e != api.OK || len(out) != 2 {
		t.Fatalf("a search: %+v, %v", out, e)
	}
	told(t, n)
	agree(t, n, d)
	told(t, n, node.Answer{N: 1, Index: 2, Reply: api.Reply{N: 2}}, node.Answer{N: 2, Index: 2})
	ask(t, n, 3, add(2, 1, "a", "x"))
	ask(t, n, 4, search("x"))
	r := n.Raft()
	// The round is confirmed, the entry is not.
	take(t, n, d, api.Rpc{Kind: api.TellAppend, Term: r.Term, Ok: true, Index: 2, Round: r.Round})
	told(t, n, node.Answer{N: 4, Index: 2})
	agree(t, n, d)
	told(t, n, node.Answer{N: 3, Index: 3})
}

// P28.2: as many searches as may wait, and as many entries as a log has.
func TestFull(t *testing.T) {
	d := newDisk(t, nil)
	n := elected(t, d)
	agree(t, n, nil)
	for k := range api.MaxReads {
		ask(t, n, k+1, search("x"))
	}
	if out, e := n.Ask(100, search("x")); e != api.ErrFull || len(out) != 0 {
		t.Errorf("a search more: %v, %v", out, e)
	}
	for k := 100; len(n.Raft().Log.Entries) < api.MaxEntries; k++ {
		ask(t, n, k, add(1, 1, "a", "x"))
	}
	if out, e := n.Ask(5000, openSession()); e != api.ErrFull || len(out) != 0 {
		t.Errorf("an entry more: %v, %v", out, e)
	}
	checkKept(t, n, d)
	agree(t, n, d)
	if l := n.Told(); len(l) != api.MaxReads+api.MaxEntries-1 {
		t.Errorf("%d answers", len(l))
	}
	if r := n.Raft(); r.Log.Base != api.MaxEntries || r.Commit != api.MaxEntries {
		t.Errorf("base %d, commit %d", r.Log.Base, r.Commit)
	}
	ask(t, n, 5000, openSession())
}

// P28.2: who leads no more in the term of a request never answers it.
func TestNeverAnswered(t *testing.T) {
	d := newDisk(t, nil)
	n := elected(t, d)
	agree(t, n, d)
	ask(t, n, 1, openSession())
	ask(t, n, 2, search("x"))
	r := n.Raft()
	last := r.Log.Entries[len(r.Log.Entries)-1]
	take(t, n, d, api.Rpc{Kind: api.AskAppend, Term: r.Term + 1, Index: last.Index, LogTerm: last.Term, Commit: last.Index})
	if n.State().Index != last.Index || len(n.State().Sessions) != 1 {
		t.Fatalf("not applied: %+v", n.State())
	}
	told(t, n)
	if out, e := n.Ask(3, openSession()); e != api.ErrState || len(out) != 0 {
		t.Errorf("Ask: %v, %v", out, e)
	}
	// The number of a request that was accepted stays taken; that of a refused one is free.
	for n.Raft().Role != api.Leader {
		out, e := n.Tick()
		if e != api.OK {
			t.Fatalf("Tick: %v", e)
		}
		if len(out) > 0 {
			take(t, n, d, api.Rpc{Kind: api.TellVote, Term: out[0].Term, Ok: true})
		}
	}
	agree(t, n, d)
	told(t, n)
	if _, e := n.Ask(2, search("x")); e != api.ErrForm {
		t.Errorf("a number again: %v", e)
	}
	ask(t, n, 3, search("x"))
	agree(t, n, d)
	if l := n.Told(); len(l) != 1 || l[0].N != 3 {
		t.Errorf("%+v", l)
	}
}

// P28.2: a request whose entry is committed only in a later term is not answered.
func TestLaterTerm(t *testing.T) {
	d := newDisk(t, nil)
	n := elected(t, d)
	agree(t, n, d)
	ask(t, n, 1, openSession())
	take(t, n, d, api.Rpc{Kind: api.AskVote, Term: n.Raft().Term + 1})
	for n.Raft().Role != api.Leader {
		if out, _ := n.Tick(); len(out) > 0 {
			take(t, n, d, api.Rpc{Kind: api.TellVote, Term: out[0].Term, Ok: true})
		}
	}
	agree(t, n, d)
	if len(n.State().Sessions) != 1 {
		t.Fatalf("not applied: %+v", n.State())
	}
	told(t, n)
}

// P28.4, R2: copies.
func TestCopies(t *testing.T) {
	n, _ := leader(t)
	ask(t, n, 1, openSession())
	ask(t, n, 2, add(n.State().Index, 1, "a", "x"))
	r, s := n.Raft(), n.State()
	want, state := show(r), show(s)
	r.Log.Entries[0].Data, r.Next[0], r.Match[0], s.Docs[0].ID, s.Sessions[0].Seq = "other", 99, 99, "other", 99
	if show(n.Raft()) != want || show(n.State()) != state {
		t.Errorf("a copy shares something")
	}
}

// P28.1: what another node's stores hold.
func TestOpenStores(t *testing.T) {
	d := newDisk(t, nil)
	s, _ := snap.Open(d)
	w, _ := wal.Open(d)
	s.SetVote(4, 2)
	s.SetSnapshot(30, 1, snapshot(t, 30))
	w.Drop(30, 1)
	w.Append(entries(t, 31, 33, 2))
	w.Sync()
	n := open(t, d, 2, 3)
	r := n.Raft()
	if r.Term != 4 || r.Vote != 2 || r.Commit != 30 || r.Log.Base != 30 || r.Log.BaseTerm != 1 || len(r.Log.Entries) != 3 || r.Snap != snapshot(t, 30) || r.Role != api.Follower || r.Leader != 0 {
		t.Errorf("%+v", r)
	}
	if !same(n.State(), stateAt(t, 30)) {
		t.Errorf("%+v", n.State())
	}
}
