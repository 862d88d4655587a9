package cluster_test

import (
	"fmt"
	"testing"

	"lectern/api"
	"lectern/history"
)

type chance uint64

func (c *chance) below(n int) int {
	*c = *c*6364136223846793005 + 1442695040888963407
	return int(*c >> 33 % chance(n))
}

func (c *chance) picks(n, max int) []int {
	var l []int
	for range c.below(n) {
		l = append(l, c.below(max))
	}
	return l
}

// script returns acts by chance for n nodes.
func (c *chance) script(n, size int) []api.Act {
	acts := []api.Act{ticks(40)}
	seq := 0
	for len(acts) < size {
		id := 1 + c.below(n)
		switch k := c.below(100); {
		case k < 25:
			acts = append(acts, ticks(1+c.below(30)))
		case k < 75:
			seq++
			acts = append(acts, ask(id, c.request(seq)))
		case k < 80:
			acts = append(acts, crash(id, c.picks(5, 40)...))
		case k < 90:
			acts = append(acts, start(id))
		case k < 94:
			acts = append(acts, arm(id, c.below(8), c.picks(5, 40)...))
		default:
			acts = append(acts, lossy(c.picks(60, 32)...))
		}
	}
	return acts
}

// request is one by chance; its client is one of the first entries' sessions.
func (c *chance) request(seq int) api.Request {
	client := 2 + c.below(4)
	id := string(rune('a' + c.below(20)))
	switch k := c.below(20); {
	case k < 3:
		return open()
	case k < 10:
		return add(client, seq-c.below(3)+3, id, "text "+id)
	case k < 13:
		return api.Request{Kind: api.CmdDelete, Client: client, Seq: seq + 3, ID: id}
	case k == 13:
		return api.Request{Kind: api.CmdClose, Client: client, Seq: seq + 3}
	}
	return search([]string{"text", "t", id, "", "none"}[c.below(5)])
}

// whole is what several runs tell about one log.
type whole struct {
	t       *testing.T
	what    string
	log     map[int]api.Entry
	states  map[int]string // of machines, by their index
	leaders map[int]int
}

// see checks T1 for a report, together with what was seen before.
func (w *whole) see(r api.Report) {
	w.t.Helper()
	for i, log := range r.Logs {
		for k, e := range log {
			if e.Index != r.Firsts[i]+k {
				w.t.Fatalf("%s: node %d: entry %d stands at %d", w.what, i+1, e.Index, r.Firsts[i]+k)
			}
			if old, found := w.log[e.Index]; found && old != e {
				w.t.Fatalf("%s: node %d: %v and %v are committed", w.what, i+1, e, old)
			}
			w.log[e.Index] = e
		}
	}
	for i, s := range r.States {
		text := show(s)
		if old, found := w.states[s.Index]; found && old != text {
			w.t.Fatalf("%s: node %d: two states at %d", w.what, i+1, s.Index)
		}
		w.states[s.Index] = text
	}
	for _, l := range r.Leaders {
		if old, found := w.leaders[l.Term]; found && old != l.Node {
			w.t.Fatalf("%s: term %d has two leaders", w.what, l.Term)
		}
		w.leaders[l.Term] = l.Node
	}
}

// entries returns the log from its first entry on.
func (w *whole) entries() []api.Entry {
	w.t.Helper()
	var l []api.Entry
	for i := 1; i <= len(w.log); i++ {
		e, found := w.log[i]
		if !found {
			w.t.Fatalf("%s: entry %d was never seen", w.what, i)
		}
		l = append(l, e)
	}
	return l
}

// P29.2, P29.3: T1 to T3 for scripts by chance, looked at after every few acts.
func TestTheorems(t *testing.T) {
	answered, leaders := 0, 0
	for seed := range 24 {
		n := 1 + seed%5
		c := chance(seed)
		acts := c.script(n, 100)
		w := &whole{t: t, what: fmt.Sprintf("seed %d", seed), log: map[int]api.Entry{}, states: map[int]string{}, leaders: map[int]int{}}
		var r api.Report
		for till := 1; till <= len(acts); till += 9 {
			r = run(t, n, uint64(seed), acts[:till]...)
			w.see(r)
		}
		// At last all nodes run and nothing is lost.
		acts = append(acts, lossy())
		for id := 1; id <= n; id++ {
			acts = append(acts, start(id), arm(id, 1<<40))
		}
		acts = append(acts, ticks(200))
		r = run(t, n, uint64(seed), acts...)
		w.see(r)
		last := r.Leaders[len(r.Leaders)-1].Node
		acts = append(acts, ask(last, open()), ticks(20), ask(last, search("t")), ticks(20))
		r = run(t, n, uint64(seed), acts...)
		w.see(r)
		for _, s := range r.States {
			if show(s) != show(r.States[0]) {
				t.Fatalf("seed %d: at last two states", seed)
			}
		}
		for _, call := range r.Calls[len(r.Calls)-2:] {
			if call.Till == 0 {
				t.Fatalf("seed %d: at last no answer: %+v", seed, call)
			}
		}
		if ok, e := history.Check(r.Calls, w.entries()); !ok || e != api.OK {
			t.Fatalf("seed %d: %v, %v", seed, ok, e)
		}
		for _, call := range r.Calls {
			if call.Till > 0 {
				answered++
			}
		}
		leaders += len(r.Leaders)
	}
	if answered < 200 || leaders < 60 {
		t.Errorf("little happened: %d answers, %d leaders", answered, leaders)
	}
}
