package cluster_test

import (
	"fmt"
	"slices"
	"strings"
	"testing"

	"lectern/api"
	"lectern/cluster"
	"lectern/history"
)

func show(a any) string {
	return fmt.Sprintf("%+v %+q", a, a)
}

func run(t *testing.T, n int, seed uint64, l ...api.Act) api.Report {
	t.Helper()
	r, e := cluster.Run(n, seed, l...)
	if e != api.OK || len(r.Logs) != n || len(r.Firsts) != n || len(r.States) != n {
		t.Fatalf("Run(%d, %d): %v, %+v", n, seed, e, r)
	}
	return r
}

func ticks(n int) api.Act { return api.Act{Kind: api.ActTick, N: n} }

func ask(node int, q api.Request) api.Act {
	return api.Act{Kind: api.ActAsk, Node: node, Request: q}
}

func crash(node int, picks ...int) api.Act {
	return api.Act{Kind: api.ActCrash, Node: node, Picks: picks}
}

func start(node int) api.Act { return api.Act{Kind: api.ActStart, Node: node} }

func arm(node, n int, picks ...int) api.Act {
	return api.Act{Kind: api.ActArm, Node: node, N: n, Picks: picks}
}

func lossy(picks ...int) api.Act { return api.Act{Kind: api.ActNet, Picks: picks} }

func open() api.Request { return api.Request{Kind: api.CmdOpen} }

func add(client, seq int, id, text string) api.Request {
	return api.Request{Kind: api.CmdAdd, Client: client, Seq: seq, ID: id, Text: text}
}

func search(p string) api.Request {
	return api.Request{Kind: api.AskSearch, Text: p, Limit: 10}
}

// lead returns the last leader of a run.
func lead(t *testing.T, n int, seed uint64, l ...api.Act) int {
	t.Helper()
	r := run(t, n, seed, l...)
	if len(r.Leaders) == 0 {
		t.Fatalf("no leader")
	}
	return r.Leaders[len(r.Leaders)-1].Node
}

// P29.1: what Run refuses.
func TestErrors(t *testing.T) {
	for _, n := range []int{0, -1, api.MaxNodes + 1, -1 << 63, 1<<63 - 1} {
		if r, e := cluster.Run(n, 1); e != api.ErrForm || show(r) != show(api.Report{}) {
			t.Errorf("Run(%d): %v, %+v", n, e, r)
		}
	}
	acts := make([]api.Act, 401)
	if r, e := cluster.Run(1, 1, acts...); e != api.ErrForm || show(r) != show(api.Report{}) {
		t.Errorf("401 acts: %v", e)
	}
	run(t, 1, 1, acts[:400]...)
	run(t, 7, 1)
}

// The chapter's example.
func TestExample(t *testing.T) {
	r := run(t, 1, 1, ticks(20))
	if len(r.Leaders) != 1 || r.Leaders[0] != (api.Lead{Term: 1, Node: 1}) {
		t.Errorf("%+v", r.Leaders)
	}
	if len(r.Logs[0]) != 1 || r.Firsts[0] != 1 || r.States[0].Index != 1 {
		t.Errorf("%+v", r)
	}
	r = run(t, 3, 1)
	if len(r.Leaders) != 0 || len(r.Calls) != 0 || len(r.Logs[2]) != 0 || r.Firsts[2] != 1 || show(r.States[2]) != show(api.State{}) {
		t.Errorf("%+v", r)
	}
}

// P29.1: time, by when requests were made; acts that are ignored.
func TestTime(t *testing.T) {
	bad := []api.Act{
		{Kind: -1, Node: 1, N: 5}, {Kind: 7, Node: 1, N: 5}, {Kind: 100}, {},
		ask(0, open()), ask(2, open()), ask(-1, open()), ask(1<<62, open()),
		ask(1, api.Request{}), ask(1, api.Request{Kind: api.CmdOpen, Limit: 1}), ask(1, add(0, 1, "a", "")), ask(1, search(strings.Repeat("x", 2049))),
		crash(0), crash(2), start(0), start(2), start(1), arm(0, 0), arm(2, 0),
		ticks(0), ticks(-5), ticks(-1 << 63),
	}
	acts := append(slices.Clone(bad), ask(1, open()), ticks(3), ask(1, open()), ticks(200), ask(1, open()), ticks(201), ask(1, open()), ticks(1<<63-1), ask(1, open()))
	r := run(t, 1, 5, append(acts, bad...)...)
	want := []int{0, 3, 203, 403, 603}
	if len(r.Calls) != len(want) {
		t.Fatalf("%d calls", len(r.Calls))
	}
	for i, c := range r.Calls {
		if c.From != want[i] || c.Node != 1 || c.Request != open() {
			t.Errorf("call %d: %+v", i, c)
		}
		answered := i == 2 || i == 3
		if answered && (c.Till != c.From+1 || c.Index != i || c.Reply.N != i) || !answered && (c.Till != 0 || c.Index != 0 || show(c.Reply) != show(api.Reply{})) {
			t.Errorf("call %d: %+v", i, c)
		}
	}
}

// P29.3, T5: without faults a request is answered, and committed everywhere within ten rounds.
func TestNoFaults(t *testing.T) {
	for n := 1; n <= api.MaxNodes; n++ {
		acts := []api.Act{ticks(200)}
		l := lead(t, n, 3, acts...)
		before := run(t, n, 3, acts...)
		acts = append(acts, ask(l, open()), ticks(20))
		r := run(t, n, 3, acts...)
		c := r.Calls[0]
		if c.Till == 0 || c.Reply.Err != api.OK || c.Reply.N != c.Index || len(r.Leaders) != len(before.Leaders) {
			t.Fatalf("%d nodes: %+v", n, c)
		}
		for i, s := range r.States {
			if s.Index != c.Index || len(s.Sessions) != 1 || show(r.Logs[i]) != show(r.Logs[0]) {
				t.Errorf("%d nodes: node %d: %+v", n, i+1, s)
			}
		}
		id := c.Reply.N
		other := l%n + 1
		acts = append(acts, ask(l, add(id, 1, "a", "xx")), ask(l, add(id, 1, "a", "xx")), ask(other, open()), ticks(20), ask(l, search("x")), ask(other, search("x")), ticks(20))
		r = run(t, n, 3, acts...)
		hits := api.Reply{N: 2, Hits: []api.Hit{{ID: "a"}, {ID: "a", At: 1}}}
		if show(r.Calls[4].Reply) != show(hits) || r.Calls[4].Till == 0 || r.Calls[1].Reply.Err != api.OK || r.Calls[2].Reply.Err != api.OK {
			t.Errorf("%d nodes: %+v", n, r.Calls)
		}
		if n > 1 && (r.Calls[3].Till != 0 || r.Calls[5].Till != 0) {
			t.Errorf("%d nodes: a follower answered: %+v", n, r.Calls)
		}
		if ok, e := history.Check(r.Calls, r.Logs[0]); !ok || e != api.OK {
			t.Errorf("%d nodes: %v, %v", n, ok, e)
		}
	}
}

// P29.1: equal arguments, equal reports; the seed counts; arguments are not changed.
func TestFunction(t *testing.T) {
	c := chance(8)
	acts := c.script(5, 60)
	before := show(acts)
	a, b := run(t, 5, 9, acts...), run(t, 5, 9, acts...)
	if show(a) != show(b) || show(acts) != before {
		t.Errorf("two runs differ")
	}
	seen := map[string]bool{}
	for seed := range uint64(10) {
		seen[show(run(t, 3, seed, ticks(100)).Leaders)] = true
	}
	if len(seen) < 2 {
		t.Errorf("the seed makes no difference")
	}
}

// timeouts are the first ones of three nodes, by the seeds that P29.1 gives them.
func timeouts(seed uint64) []int {
	next := func(s uint64) uint64 {
		if s == 0 {
			s = 0x9e3779b97f4a7c15
		}
		s ^= s << 13
		s ^= s >> 7
		return s ^ s<<17
	}
	var l []int
	for range 3 {
		seed = next(seed)
		l = append(l, 10+int(next(seed)%10))
	}
	return l
}

// P29.1, P29.2: the first seeds: who has the shortest timeout asks first, and leads when the votes are there, two units of time later.
func TestSeeds(t *testing.T) {
	clear := 0
	for seed := range uint64(200) {
		l := timeouts(seed)
		best := slices.Min(l)
		first := slices.Index(l, best) + 1
		if r := run(t, 3, seed, ticks(best+1)); len(r.Leaders) != 0 {
			t.Fatalf("seed %d: a leader too early", seed)
		}
		slices.Sort(l)
		if l[1] < best+2 {
			continue
		}
		clear++
		if r := run(t, 3, seed, ticks(best+2)); show(r.Leaders) != show([]api.Lead{{Term: 1, Node: first}}) {
			t.Fatalf("seed %d: %+v, not node %d", seed, r.Leaders, first)
		}
	}
	if clear < 50 {
		t.Errorf("only %d clear elections", clear)
	}
}

// T5: nodes that start again and again find a leader each time.
func TestRestarts(t *testing.T) {
	for seed := range uint64(40) {
		acts := []api.Act{ticks(100)}
		for i := range 8 {
			acts = append(acts, crash(1), ticks(int(seed)%7*i), crash(2), start(1), ticks(i*5), start(2), ticks(150))
			r := run(t, 2, seed, acts...)
			l := r.Leaders[len(r.Leaders)-1].Node
			acts = append(acts, ask(l, open()), ticks(20))
			r = run(t, 2, seed, acts...)
			if c := r.Calls[len(r.Calls)-1]; c.Till == 0 {
				t.Fatalf("seed %d, start %d: %+v", seed, i, c)
			}
		}
	}
}

// P29.1: crashes and starts.
func TestCrash(t *testing.T) {
	acts := []api.Act{ticks(100)}
	l := lead(t, 3, 4, acts...)
	acts = append(acts, ask(l, open()), ticks(20))
	alive := run(t, 3, 4, acts...)
	acts = append(acts, crash(l), crash(l), ask(l, open()), ticks(1))
	r := run(t, 3, 4, acts...)
	if len(r.Calls) != 1 || show(r.States) != show(alive.States) || show(r.Logs) != show(alive.Logs) {
		t.Errorf("after a crash: %+v", r)
	}
	// Another one leads; the one that crashed comes back with what it had.
	acts = append(acts, ticks(100))
	second := lead(t, 3, 4, acts...)
	if second == l {
		t.Fatalf("node %d still leads", l)
	}
	back := run(t, 3, 4, append(slices.Clone(acts), start(l))...)
	if back.States[l-1].Index != 0 || back.Firsts[l-1] != 1 || show(back.Logs[l-1]) != show(alive.Logs[l-1]) {
		t.Errorf("started again: %+v, not %+v", back.Logs[l-1], alive.Logs[l-1])
	}
	acts = append(acts, ask(second, search("x")), start(l), start(l), ticks(40))
	r = run(t, 3, 4, acts...)
	if r.Calls[1].Till == 0 || show(r.States[l-1]) != show(r.States[second-1]) || show(r.Logs[l-1]) != show(r.Logs[second-1]) {
		t.Errorf("a node that came back: %+v", r)
	}
	// A majority is gone: nothing is answered.
	acts = append(acts, crash(1), crash(2), crash(3), start(1), ticks(100), ask(1, open()), ticks(100))
	r = run(t, 3, 4, acts...)
	if c := r.Calls[len(r.Calls)-1]; c.Till != 0 {
		t.Errorf("one of three answers: %+v", c)
	}
}

// P29.1: answers that were not collected when their node went are lost.
func TestCrashBeforeAnswer(t *testing.T) {
	for _, end := range []api.Act{crash(1), arm(1, 0), arm(1, -9)} {
		r := run(t, 1, 1, ticks(20), ask(1, open()), end, ticks(30), start(1), ticks(30), ask(1, search("x")), ticks(1))
		if r.Calls[0].Till != 0 || r.Calls[1].Till == 0 || len(r.States[0].Sessions) != 1 {
			t.Errorf("%+v: %+v", end, r.Calls)
		}
	}
}

// P29.1: the power goes off at a call of the disk; picks of the last ActArm say what is left.
func TestArm(t *testing.T) {
	acts := []api.Act{ticks(20), ask(1, open()), ticks(1)}
	alive := run(t, 1, 1, acts...)
	for n := 1; n < 12; n++ {
		armed := append(slices.Clone(acts), arm(1, 100, 1), arm(1, n, 0, 0), ask(1, add(2, 1, "a", "x")), ask(1, add(2, 2, "b", "x")), ask(1, add(2, 3, "c", "x")), ask(1, add(2, 4, "d", "x")), ticks(1))
		r := run(t, 1, 1, armed...)
		answered := 0
		for _, c := range r.Calls[1:] {
			if c.Till != 0 {
				answered++
			}
		}
		// Answers that were there when the power went are lost with it.
		if made := len(r.Calls) - 1; made < 4 && (answered != 0 || made == 0 || len(r.States[0].Docs) != made-1) || made == 4 && len(r.States[0].Docs) < 3 {
			t.Fatalf("arm %d: %d calls, %d answered, %+v", n, made, answered, r.States[0])
		}
		before := len(r.States[0].Docs)
		r = run(t, 1, 1, append(armed, start(1), ticks(30), ask(1, search("x")), ticks(1))...)
		last := r.Calls[len(r.Calls)-1]
		if last.Till == 0 || last.Reply.N < before || last.Reply.N > before+1 {
			t.Fatalf("arm %d: %d documents, then %+v", n, before, last)
		}
	}
	for _, n := range []int{0, 5} {
		if r := run(t, 1, 1, append(acts, arm(1, 0), ticks(n), ask(1, open()))...); show(r.States) != show(alive.States) || len(r.Calls) != 1 {
			t.Errorf("off at once: %+v", r)
		}
	}
}

// P29.1: the picks of the last ActArm say what is found after it.
func TestArmPicks(t *testing.T) {
	differ := 0
	for n := 1; n < 12; n++ {
		after := func(arms ...api.Act) int {
			acts := append([]api.Act{ticks(20), ask(1, open()), ticks(1)}, arms...)
			r := run(t, 1, 1, append(acts, ask(1, add(2, 1, "a", "x")), start(1), ticks(40), ask(1, search("x")), ticks(1))...)
			return r.Calls[len(r.Calls)-1].Reply.N
		}
		lost, found := after(arm(1, n)), after(arm(1, n, 1, 1, 1, 1))
		if lost > found {
			t.Errorf("arm %d: %d, %d", n, lost, found)
		}
		if lost < found {
			differ++
		}
		if after(arm(1, 100, 1, 1, 1, 1), arm(1, n)) != lost || after(arm(1, 100), arm(1, n, 1, 1, 1, 1)) != found {
			t.Errorf("arm %d: the picks are not those of the last ActArm", n)
		}
	}
	if differ == 0 {
		t.Errorf("the picks make no difference")
	}
}

// P29.1: what befalls messages.
func TestNet(t *testing.T) {
	lost := slices.Repeat([]int{1}, 100000)
	if r := run(t, 2, 1, lossy(lost...), ticks(200)); len(r.Leaders) != 0 {
		t.Errorf("all messages are lost: %+v", r.Leaders)
	}
	if r := run(t, 2, 1, lossy(lost...), lossy(), ticks(200)); len(r.Leaders) == 0 {
		t.Errorf("picks that were replaced")
	}
	if r := run(t, 2, 1, lossy(1, 1, 1), ticks(200)); len(r.Leaders) == 0 {
		t.Errorf("three messages are lost")
	}
	// A message takes one unit of time, or as many as its pick says; so does its answer.
	for _, c := range []struct{ pick, late int }{{0, 2}, {2, 4}, {2 + 4*3, 10}, {3, 2}} {
		acts := []api.Act{ticks(100)}
		l := lead(t, 3, 2, acts...)
		acts = append(acts, lossy(slices.Repeat([]int{c.pick}, 8)...), ask(l, open()), ticks(20))
		r := run(t, 3, 2, acts...)
		if got := r.Calls[0].Till - r.Calls[0].From; got > c.late || got < 2 || c.pick != 2+4*3 && got != c.late {
			t.Errorf("pick %d: answered after %d", c.pick, got)
		}
	}
}

// P29.2: logs begin behind the snapshot.
func TestFirsts(t *testing.T) {
	acts := []api.Act{ticks(20), ask(1, open())}
	for i := range 70 {
		acts = append(acts, ask(1, add(2, i+1, fmt.Sprintf("d%02d", i), "x")))
	}
	r := run(t, 1, 1, append(acts, ticks(1))...)
	if r.Firsts[0] != 65 || len(r.Logs[0]) != 8 || r.Logs[0][0].Index != 65 || r.States[0].Index != 72 || len(r.States[0].Docs) != 64 {
		t.Errorf("first %d, %d entries, index %d", r.Firsts[0], len(r.Logs[0]), r.States[0].Index)
	}
	r = run(t, 1, 1, append(acts, crash(1), start(1))...)
	if r.Firsts[0] != 65 || len(r.Logs[0]) != 8 || r.States[0].Index != 64 {
		t.Errorf("started again: first %d, %d entries, index %d", r.Firsts[0], len(r.Logs[0]), r.States[0].Index)
	}
	// What was proposed but is not committed is not told.
	acts = []api.Act{ticks(100)}
	l := lead(t, 3, 2, acts...)
	acts = append(acts, ask(l, open()), ask(l, open()))
	r = run(t, 3, 2, acts...)
	if before := run(t, 3, 2, ticks(100)); show(r.Logs) != show(before.Logs) || show(r.States) != show(before.States) {
		t.Errorf("%+v", r.Logs)
	}
	for range 40 {
		acts = append(acts, ask(l, open()), ticks(4))
	}
	acts = append(acts, ticks(20))
	before := run(t, 3, 2, acts...)
	r = run(t, 3, 2, append(acts, ask(l, open()), ask(l, open()))...)
	if before.Firsts[l-1] == 1 || show(r.Logs) != show(before.Logs) || show(r.Firsts) != show(before.Firsts) {
		t.Errorf("behind a snapshot: %+v, not %+v", r.Logs, before.Logs)
	}
}
