package history_test

import (
	"slices"
	"strings"
	"testing"

	"lectern/api"
	"lectern/command"
	"lectern/history"
)

const end = 1 << 40

// logOf returns a log with these commands; those of Kind 0 are entries that are none.
func logOf(t *testing.T, l ...api.Command) []api.Entry {
	t.Helper()
	var log []api.Entry
	for i, c := range l {
		data := "no command"
		if c.Kind != api.CmdNone {
			b, e := command.Bytes(c)
			if e != api.OK {
				t.Fatalf("Bytes of %v: %v", c, e)
			}
			data = string(b)
		}
		log = append(log, api.Entry{Index: i + 1, Term: 7 - i, Data: data})
	}
	return log
}

func expect(t *testing.T, what string, l []api.Call, log []api.Entry, want bool) {
	t.Helper()
	for range 2 {
		if got, e := history.Check(l, log); got != want || e != api.OK {
			t.Errorf("%s: %v, %v, not %v", what, got, e, want)
		}
		l = slices.Clone(l)
		slices.Reverse(l)
	}
}

func open() api.Request { return api.Request{Kind: api.CmdOpen} }

func add(client, seq int, id, text string) api.Request {
	return api.Request{Kind: api.CmdAdd, Client: client, Seq: seq, ID: id, Text: text}
}

func search(p string, limit int) api.Request {
	return api.Request{Kind: api.AskSearch, Text: p, Limit: limit}
}

func call(q api.Request, from, till, index int, r api.Reply) api.Call {
	return api.Call{Request: q, Node: 1, From: from, Till: till, Index: index, Reply: r}
}

// history1 is a log of six entries, and calls that agree with it.
func history1(t *testing.T) ([]api.Call, []api.Entry) {
	log := logOf(t,
		api.Command{Kind: api.CmdOpen},
		api.Command{},
		api.Command{Kind: api.CmdAdd, Client: 1, Seq: 1, ID: "a", Text: "xx"},
		api.Command{Kind: api.CmdAdd, Client: 1, Seq: 1, ID: "a", Text: "xx"},
		api.Command{Kind: api.CmdDelete, Client: 1, Seq: 2, ID: "b"},
		api.Command{Kind: api.CmdClose, Client: 1, Seq: 3},
	)
	one, two := []api.Hit{{ID: "a"}}, []api.Hit{{ID: "a"}, {ID: "a", At: 1}}
	calls := []api.Call{
		call(open(), 1, 2, 1, api.Reply{N: 1}),
		call(add(1, 1, "a", "xx"), 3, 9, 3, api.Reply{}),
		call(add(1, 1, "a", "xx"), 4, 10, 4, api.Reply{}),
		call(search("x", 5), 3, 4, 2, api.Reply{}),
		call(search("x", 5), 4, 7, 3, api.Reply{N: 2, Hits: two}),
		call(search("x", 1), 4, 7, 5, api.Reply{N: 2, Hits: one}),
		call(search("x", 0), 4, 7, 4, api.Reply{Err: api.ErrLimit}),
		call(search("", -7), 11, 12, 6, api.Reply{Err: api.ErrEmpty}),
		call(api.Request{Kind: api.CmdDelete, Client: 1, Seq: 2, ID: "b"}, 11, 12, 5, api.Reply{Err: api.ErrNone}),
		call(api.Request{Kind: api.CmdClose, Client: 1, Seq: 3}, 13, 14, 6, api.Reply{}),
		call(add(1, 9, "c", ""), 5, 0, 0, api.Reply{}),
		call(search("x", 1), 99, 0, 0, api.Reply{}),
	}
	return calls, log
}

// P27.1: calls that agree with a log, and each with one fault.
func TestReplies(t *testing.T) {
	calls, log := history1(t)
	expect(t, "the whole history", calls, log, true)
	for i, c := range calls {
		expect(t, "one call", calls[i:i+1], log, true)
		if c.Till == 0 {
			continue
		}
		fault := func(what string, f func(c *api.Call)) {
			t.Helper()
			l := slices.Clone(calls)
			f(&l[i])
			expect(t, what, l, log, false)
			expect(t, what+", alone", l[i:i+1], log, false)
		}
		fault("another error", func(c *api.Call) { c.Reply.Err++ })
		fault("another number", func(c *api.Call) { c.Reply.N++ })
		fault("another hit", func(c *api.Call) { c.Reply.Hits = append(slices.Clone(c.Reply.Hits), api.Hit{ID: "a"}) })
		fault("no such entry", func(c *api.Call) { c.Index = 7 })
		if c.Request.Kind != api.AskSearch {
			fault("index 0", func(c *api.Call) { c.Index = 0 })
			fault("an entry that is no command", func(c *api.Call) { c.Index = 2 })
		}
		if len(c.Reply.Hits) > 0 {
			fault("the state ahead of it", func(c *api.Call) { c.Index = 2 })
			fault("a hit elsewhere", func(c *api.Call) {
				c.Reply.Hits = slices.Clone(c.Reply.Hits)
				c.Reply.Hits[0].At++
			})
		}
	}
}

// P27.1: every field of a request counts.
func TestRequests(t *testing.T) {
	log := logOf(t, api.Command{Kind: api.CmdOpen}, api.Command{Kind: api.CmdAdd, Client: 5, Seq: 2, ID: "a", Text: "x"})
	r := api.Reply{Err: api.ErrSession}
	expect(t, "the same", []api.Call{call(add(5, 2, "a", "x"), 1, 2, 2, r)}, log, true)
	for _, q := range []api.Request{add(6, 2, "a", "x"), add(5, 3, "a", "x"), add(5, 2, "b", "x"), add(5, 2, "a", "y"), open(), {Kind: api.CmdDelete, Client: 5, Seq: 2, ID: "a"}} {
		expect(t, "another request", []api.Call{call(q, 1, 2, 2, r)}, log, false)
	}
	expect(t, "without a log", nil, nil, true)
	expect(t, "a search of nothing", []api.Call{call(search("x", 1), 0, 1, 0, api.Reply{})}, nil, true)
	expect(t, "a search of nothing, later", []api.Call{call(search("x", 1), 0, 1, 1, api.Reply{})}, nil, false)
	// An entry whose data are no command, and one that is applied to no effect.
	odd := []api.Entry{{Index: 1, Data: string([]byte{0})}, {Index: 2, Term: -5, Data: log[1].Data}}
	expect(t, "odd entries", []api.Call{call(add(5, 2, "a", "x"), 1, 2, 2, r)}, odd, true)
}

// P27.1: what was answered before another call was made.
func TestTimes(t *testing.T) {
	log := logOf(t, api.Command{Kind: api.CmdOpen}, api.Command{Kind: api.CmdOpen}, api.Command{Kind: api.CmdOpen})
	write := func(from, till, index int) api.Call { return call(open(), from, till, index, api.Reply{N: index}) }
	look := func(from, till, index int) api.Call { return call(search("x", 1), from, till, index, api.Reply{}) }
	for i, c := range []struct {
		a, b api.Call
		want bool
	}{
		{write(1, 2, 1), write(3, 4, 2), true},
		{write(1, 2, 2), write(3, 4, 1), false},
		{write(1, 3, 2), write(3, 4, 1), true},
		{write(1, 2, 2), write(2, 4, 1), true},
		{write(1, 2, 2), write(3, 4, 2), false},
		{write(1, 3, 2), write(3, 4, 2), true},
		{write(1, 2, 2), look(3, 4, 2), true},
		{write(1, 2, 2), look(3, 4, 3), true},
		{write(1, 2, 2), look(3, 4, 1), false},
		{write(1, 3, 2), look(3, 4, 1), true},
		{look(1, 2, 2), write(3, 4, 2), true},
		{look(1, 2, 2), write(3, 4, 3), true},
		{look(1, 2, 2), write(3, 4, 1), false},
		{look(1, 2, 2), look(3, 4, 2), true},
		{look(1, 2, 2), look(3, 4, 1), false},
		{look(1, 3, 2), look(3, 4, 1), true},
		{look(0, 2, 1), look(3, 4, 0), false},
		{write(5, 5, 2), write(5, 5, 1), true},
	} {
		if got, e := history.Check([]api.Call{c.a, c.b}, log); got != c.want || e != api.OK {
			t.Errorf("case %d: %v, %v", i, got, e)
		}
		if got, e := history.Check([]api.Call{look(0, 9, 3), c.b, call(open(), 2, 0, 0, api.Reply{}), c.a}, log); got != c.want || e != api.OK {
			t.Errorf("case %d, the other way round: %v, %v", i, got, e)
		}
	}
}

// P27.1: an early answer counts also for calls much later, whatever lies between.
func TestManyTimes(t *testing.T) {
	var commands []api.Command
	var calls []api.Call
	for i := range 300 {
		commands = append(commands, api.Command{Kind: api.CmdOpen})
		calls = append(calls, call(open(), 3*i, 3*i+4, i+1, api.Reply{N: i + 1}))
		calls = append(calls, call(search("x", 1), 3*i, 3*i+1, i, api.Reply{}))
	}
	log := logOf(t, commands...)
	expect(t, "many calls", calls, log, true)
	for _, i := range []int{100, 400, 598} {
		l := slices.Clone(calls)
		l[i+1].Index -= 3
		expect(t, "a search that is too old", l, log, false)
	}
}

// P27.1: invalid calls and logs.
func TestErrors(t *testing.T) {
	calls, log := history1(t)
	long := strings.Repeat("x", api.MaxEntry/2+1)
	good := calls[1]
	bad := func(f func(c *api.Call)) api.Call {
		c := good
		f(&c)
		return c
	}
	var hits = []api.Hit{{ID: "a"}}
	for i, c := range []api.Call{
		{},
		bad(func(c *api.Call) { c.Request.Kind = 0 }),
		bad(func(c *api.Call) { c.Request.Kind = 5 }),
		bad(func(c *api.Call) { c.Request.Client = 0 }),
		bad(func(c *api.Call) { c.Request.Seq = end }),
		bad(func(c *api.Call) { c.Request.Limit = 1 }),
		bad(func(c *api.Call) { c.Request.Limit = -1 }),
		bad(func(c *api.Call) { c.Request.Text = long }),
		bad(func(c *api.Call) { c.Request = api.Request{Kind: api.CmdOpen, Limit: 1} }),
		bad(func(c *api.Call) { c.Request = api.Request{Kind: api.CmdOpen, Seq: 1} }),
		bad(func(c *api.Call) { c.Request = search(long, 1) }),
		bad(func(c *api.Call) { c.Request = search("x", 1); c.Request.Client = 1 }),
		bad(func(c *api.Call) { c.Request = search("x", 1); c.Request.Seq = 1 }),
		bad(func(c *api.Call) { c.Request = search("x", 1); c.Request.ID = "a" }),
		bad(func(c *api.Call) { c.Node = 0 }),
		bad(func(c *api.Call) { c.Node = -1 }),
		bad(func(c *api.Call) { c.Node = api.MaxNodes + 1 }),
		bad(func(c *api.Call) { c.From = -1 }),
		bad(func(c *api.Call) { c.From, c.Till = end, end }),
		bad(func(c *api.Call) { c.Till = end }),
		bad(func(c *api.Call) { c.Till = -1 }),
		bad(func(c *api.Call) { c.Till = c.From - 1 }),
		bad(func(c *api.Call) { c.Index = -1 }),
		bad(func(c *api.Call) { c.Index = end }),
		bad(func(c *api.Call) { c.Till = 0 }),
		bad(func(c *api.Call) { c.Till, c.Index, c.Reply.Err = 0, 0, 1 }),
		bad(func(c *api.Call) { c.Till, c.Index, c.Reply.N = 0, 0, 1 }),
		bad(func(c *api.Call) { c.Till, c.Index, c.Reply.Hits = 0, 0, hits }),
	} {
		if got, e := history.Check(append(slices.Clone(calls), c), log); got || e != api.ErrForm {
			t.Errorf("call %d: %v, %v", i, got, e)
		}
	}
	for _, indexes := range [][]int{{0}, {2}, {1, 1}, {1, 3}, {2, 1}, {-1}, {1, 2, 4}} {
		var l []api.Entry
		for _, i := range indexes {
			l = append(l, api.Entry{Index: i})
		}
		if got, e := history.Check(nil, l); got || e != api.ErrForm {
			t.Errorf("log %v: %v, %v", indexes, got, e)
		}
	}
}

// P27.1: the limits of what is valid.
func TestLimits(t *testing.T) {
	longest := strings.Repeat("x", api.MaxEntry/2)
	calls := []api.Call{
		{Request: search(longest, -1<<63), Node: api.MaxNodes, From: end - 1, Till: end - 1, Reply: api.Reply{Err: api.ErrLimit}},
		{Request: search(longest, 1<<63-1), Node: 1, From: end - 1},
		{Request: add(end-1, end-1, longest, ""), Node: 1},
		{Request: search("", 0), Node: 1, From: 0, Till: 1, Reply: api.Reply{Err: api.ErrEmpty, Hits: []api.Hit{}}},
	}
	expect(t, "at the limits", calls, nil, true)
}

// The chapter's example; R2: the arguments are not changed.
func TestExample(t *testing.T) {
	if got, e := history.Check(nil, nil); !got || e != api.OK {
		t.Errorf("%v, %v", got, e)
	}
	calls, log := history1(t)
	slices.Reverse(calls)
	first := calls[0].From
	history.Check(calls, log)
	if calls[0].From != first {
		t.Errorf("the argument changed")
	}
}
