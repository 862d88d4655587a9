package session_test

import (
	"fmt"
	"slices"
	"testing"

	"lectern/api"
	"lectern/session"
)

const end = 1 << 40

// same holds two values against each other; a nil list is an empty one.
func same(a, b any) bool {
	return fmt.Sprintf("%+v", a) == fmt.Sprintf("%+v", b)
}

// full returns MaxSessions sessions, used in the order in which the numbers of used say.
func full(used ...int) []api.Session {
	var l []api.Session
	for i, u := range used {
		l = append(l, api.Session{Client: 10 * (i + 1), Seq: i, Used: u, Reply: api.Reply{N: i}})
	}
	return l
}

// invalid lists, each with one fault.
func invalid() [][]api.Session {
	one := func(s api.Session) []api.Session { return []api.Session{s} }
	return [][]api.Session{
		one(api.Session{Client: 0}),
		one(api.Session{Client: -1}),
		one(api.Session{Client: end}),
		one(api.Session{Client: 1, Seq: -1}),
		one(api.Session{Client: 1, Seq: end}),
		one(api.Session{Client: 1, Used: -1}),
		one(api.Session{Client: 1, Used: end}),
		one(api.Session{Client: 1, Reply: api.Reply{Err: -1}}),
		one(api.Session{Client: 1, Reply: api.Reply{Err: api.ErrOld + 1}}),
		one(api.Session{Client: 1, Reply: api.Reply{N: -1}}),
		one(api.Session{Client: 1, Reply: api.Reply{N: end}}),
		one(api.Session{Client: 1, Reply: api.Reply{Hits: []api.Hit{{}}}}),
		{{Client: 1}, {Client: 1}},
		{{Client: 2}, {Client: 1}},
		full(1, 2, 3, 4, 5, 6, 7, 8, 9),
	}
}

// P14.1: what is valid, and what is not; every function looks at this first.
func TestCheck(t *testing.T) {
	for _, l := range [][]api.Session{
		nil,
		{},
		{{Client: 1}},
		{{Client: end - 1, Seq: end - 1, Used: end - 1, Reply: api.Reply{Err: api.ErrOld, N: end - 1, Hits: []api.Hit{}}}},
		{{Client: 1}, {Client: 2}, {Client: end - 1}},
		full(1, 2, 3, 4, 5, 6, 7, 8),
	} {
		if e := session.Check(l); e != api.OK {
			t.Errorf("Check of %v: %v", l, e)
		}
	}
	for e := api.OK; e <= api.ErrOld; e++ {
		if got := session.Check([]api.Session{{Client: 1, Reply: api.Reply{Err: e}}}); got != api.OK {
			t.Errorf("a reply with %v: %v", e, got)
		}
	}
	for _, l := range invalid() {
		_, a := session.Open(l, 1000)
		_, known, b := session.Begin(l, 999, 1)
		_, c := session.Done(l, 999, 1, api.Reply{}, 5)
		_, d := session.Close(l, 999)
		if e := session.Check(l); known || e != api.ErrForm || a != e || b != e || c != e || d != e {
			t.Errorf("%v: %v, %v, %v, %v, %v", l, e, a, b, c, d)
		}
	}
}

// P14.1: new sessions stand where their number says.
func TestOpen(t *testing.T) {
	var l []api.Session
	for _, index := range []int{5, 1, end - 1, 3} {
		m, e := session.Open(l, index)
		i := slices.IndexFunc(m, func(s api.Session) bool { return s.Client == index })
		if e != api.OK || len(m) != len(l)+1 || i < 0 || !same(m[i], api.Session{Client: index, Used: index}) {
			t.Fatalf("Open(%d): %v, %v", index, m, e)
		}
		if !same(slices.Delete(slices.Clone(m), i, i+1), append([]api.Session{}, l...)) || session.Check(m) != api.OK {
			t.Fatalf("Open(%d): %v of %v", index, m, l)
		}
		l = m
	}
	for _, index := range []int{0, -1, end, end + 1, -1 << 63, 1<<63 - 1, 5, 1, end - 1, 3} {
		if m, e := session.Open(l, index); len(m) != 0 || e != api.ErrForm {
			t.Errorf("Open(%d): %v, %v", index, m, e)
		}
	}
}

// P14.1: when there is no room, the session that was not used for the longest time goes.
func TestOpenFull(t *testing.T) {
	for _, c := range []struct {
		used []int
		gone int
	}{
		{[]int{1, 2, 3, 4, 5, 6, 7, 8}, 10},
		{[]int{8, 7, 6, 5, 4, 3, 2, 1}, 80},
		{[]int{5, 5, 2, 7, 2, 2, 9, 9}, 30},
		{[]int{4, 4, 4, 4, 4, 4, 4, 4}, 10},
		{[]int{9, 9, 9, 9, 0, 9, 9, 0}, 50},
	} {
		for _, index := range []int{1, 15, 35, 95} {
			l := full(c.used...)
			m, e := session.Open(l, index)
			var clients []int
			for _, s := range m {
				clients = append(clients, s.Client)
			}
			want := slices.DeleteFunc([]int{10, 20, 30, 40, 50, 60, 70, 80, index}, func(n int) bool { return n == c.gone })
			slices.Sort(want)
			if e != api.OK || !slices.Equal(clients, want) || session.Check(m) != api.OK {
				t.Errorf("Open(%d) of %v: %v, %v, not %v", index, c.used, clients, e, want)
			}
			if !same(l, full(c.used...)) {
				t.Errorf("the argument changed: %v", l)
			}
		}
		if m, e := session.Open(full(c.used...), c.gone); len(m) != 0 || e != api.ErrForm {
			t.Errorf("Open(%d) of %v: %v, %v", c.gone, c.used, m, e)
		}
	}
}

// P14.2: what Begin finds.
func TestBegin(t *testing.T) {
	last := api.Reply{Err: api.ErrThere, N: 7}
	l := []api.Session{{Client: 2}, {Client: 4, Seq: 9, Reply: last, Used: 12}, {Client: 6, Seq: end - 1}}
	for _, c := range []struct {
		client, seq int
		r           api.Reply
		known       bool
		e           api.Errno
	}{
		{4, 9, last, true, api.OK},
		{4, 10, api.Reply{}, false, api.OK},
		{4, end - 1, api.Reply{}, false, api.OK},
		{4, 8, api.Reply{}, false, api.ErrOld},
		{4, 1, api.Reply{}, false, api.ErrOld},
		{4, 0, api.Reply{}, false, api.ErrForm},
		{4, -1, api.Reply{}, false, api.ErrForm},
		{4, end, api.Reply{}, false, api.ErrForm},
		{4, 1<<63 - 1, api.Reply{}, false, api.ErrForm},
		{2, 1, api.Reply{}, false, api.OK},
		{2, 0, api.Reply{}, false, api.ErrForm},
		{6, end - 1, api.Reply{}, true, api.OK},
		{6, end - 2, api.Reply{}, false, api.ErrOld},
		{3, 9, api.Reply{}, false, api.ErrSession},
		{3, 0, api.Reply{}, false, api.ErrForm},
		{-1, 9, api.Reply{}, false, api.ErrSession},
		{0, 9, api.Reply{}, false, api.ErrSession},
		{1<<63 - 1, 9, api.Reply{}, false, api.ErrSession},
	} {
		if r, known, e := session.Begin(l, c.client, c.seq); !same(r, c.r) || known != c.known || e != c.e {
			t.Errorf("Begin(%d, %d): %v, %v, %v", c.client, c.seq, r, known, e)
		}
	}
}

// P14.2: what Done sets, and what it refuses.
func TestDone(t *testing.T) {
	l := []api.Session{{Client: 2, Used: 2}, {Client: 4, Seq: 9, Used: 12, Reply: api.Reply{N: 3}}, {Client: 6}}
	good := api.Reply{Err: api.ErrFull, N: end - 1}
	for _, c := range []struct{ seq, index int }{{10, 13}, {1, 1}, {end - 1, end - 1}, {9, 12}, {3, 4}} {
		m, e := session.Done(l, 4, c.seq, good, c.index)
		want := []api.Session{l[0], {Client: 4, Seq: c.seq, Reply: good, Used: c.index}, l[2]}
		if e != api.OK || !same(m, want) {
			t.Errorf("Done(4, %d, %d): %v, %v", c.seq, c.index, m, e)
		}
	}
	for _, c := range []struct {
		client, seq int
		r           api.Reply
		index       int
		e           api.Errno
	}{
		{4, 0, good, 1, api.ErrForm},
		{4, -1, good, 1, api.ErrForm},
		{4, end, good, 1, api.ErrForm},
		{4, 1, good, 0, api.ErrForm},
		{4, 1, good, -1, api.ErrForm},
		{4, 1, good, end, api.ErrForm},
		{4, 1, api.Reply{Err: -1}, 1, api.ErrForm},
		{4, 1, api.Reply{Err: 11}, 1, api.ErrForm},
		{4, 1, api.Reply{N: -1}, 1, api.ErrForm},
		{4, 1, api.Reply{N: end}, 1, api.ErrForm},
		{4, 1, api.Reply{Hits: []api.Hit{{ID: "a"}}}, 1, api.ErrForm},
		{5, 1, good, 1, api.ErrSession},
		{0, 1, good, 1, api.ErrSession},
		{5, 0, good, 1, api.ErrForm},
		{5, 1, api.Reply{N: -1}, 1, api.ErrForm},
	} {
		if m, e := session.Done(l, c.client, c.seq, c.r, c.index); len(m) != 0 || e != c.e {
			t.Errorf("Done(%d, %d, %v, %d): %v, %v, not %v", c.client, c.seq, c.r, c.index, m, e, c.e)
		}
	}
}

// P14.2: what Close removes.
func TestClose(t *testing.T) {
	l := full(1, 2, 3)
	for i, s := range l {
		m, e := session.Close(l, s.Client)
		if e != api.OK || !same(m, slices.Delete(full(1, 2, 3), i, i+1)) {
			t.Errorf("Close(%d): %v, %v", s.Client, m, e)
		}
	}
	for _, client := range []int{0, -1, 11, 31, 1<<63 - 1} {
		if m, e := session.Close(l, client); len(m) != 0 || e != api.ErrSession {
			t.Errorf("Close(%d): %v, %v", client, m, e)
		}
	}
	if m, e := session.Close(nil, 1); len(m) != 0 || e != api.ErrSession {
		t.Errorf("Close of nothing: %v, %v", m, e)
	}
}

// P14.3 and the chapter's example: a repeated request receives the same reply.
func TestExample(t *testing.T) {
	l, e := session.Open(nil, 3)
	if e != api.OK {
		t.Fatalf("Open: %v", e)
	}
	if r, known, e := session.Begin(l, 3, 1); known || e != api.OK || !same(r, api.Reply{}) {
		t.Errorf("a new request: %v, %v, %v", r, known, e)
	}
	r := api.Reply{Err: api.ErrNone, N: 4}
	l, e = session.Done(l, 3, 1, r, 4)
	if e != api.OK {
		t.Fatalf("Done: %v", e)
	}
	for range 2 {
		if got, known, e := session.Begin(l, 3, 1); !known || e != api.OK || !same(got, r) {
			t.Errorf("a repeated request: %v, %v, %v", got, known, e)
		}
	}
}

// R2: the returned lists are copies.
func TestMemory(t *testing.T) {
	l := full(1, 2, 3)
	l = append(make([]api.Session, 0, 20), l...)
	a, _ := session.Open(l, 25)
	b, _ := session.Done(l, 10, 5, api.Reply{}, 5)
	c, _ := session.Close(l, 10)
	for _, m := range [][]api.Session{a, b, c} {
		for i := range m {
			m[i].Client = 7
		}
		_ = append(m, api.Session{Client: 8})
	}
	if !same(l, full(1, 2, 3)) || l[:4][3].Client != 0 {
		t.Errorf("%v", l)
	}
	// An empty list of hits has memory, too.
	r := api.Reply{Hits: make([]api.Hit, 0, 4)}
	d, _ := session.Done(l, 10, 5, r, 5)
	_ = append(d[0].Reply.Hits, api.Hit{ID: "other"})
	again, _, _ := session.Begin([]api.Session{{Client: 1, Seq: 1, Reply: r}}, 1, 1)
	_ = append(again.Hits, api.Hit{ID: "other"})
	if r.Hits[:1][0].ID != "" {
		t.Errorf("the reply's hits are shared")
	}
}
