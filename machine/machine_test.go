package machine_test

import (
	"fmt"
	"slices"
	"strings"
	"testing"

	"lectern/api"
	"lectern/machine"
	"lectern/session"
)

const end = 1 << 40

// same holds two values against each other; a nil list is an empty one.
func same(a, b any) bool {
	return show(a) == show(b)
}

// show tells numbers as numbers, and texts so that none looks like two.
func show(a any) string {
	return fmt.Sprintf("%+v %+q", a, a)
}

func build(t *testing.T, s api.State) *machine.Machine {
	t.Helper()
	m, e := machine.New(s)
	if e != api.OK || m == nil {
		t.Fatalf("New of %v: %v, %v", s, m, e)
	}
	if got := m.State(); !same(got, s) {
		t.Fatalf("State: %v, not %v", got, s)
	}
	return m
}

// someState has documents and sessions.
func someState() api.State {
	return api.State{
		Index: 20,
		Docs:  []api.Doc{{ID: "a", Text: "xx"}, {ID: "b", Text: "x"}},
		Sessions: []api.Session{
			{Client: 3, Seq: 5, Used: 9, Reply: api.Reply{Err: api.ErrThere}},
			{Client: 4, Used: 4},
			{Client: 25, Seq: 1, Used: 25},
		},
	}
}

// P15.1: valid and invalid states.
func TestStates(t *testing.T) {
	full := api.State{Index: end - 1}
	for i := range api.MaxDocs {
		full.Docs = append(full.Docs, api.Doc{ID: fmt.Sprintf("%064d", i), Text: strings.Repeat("x", api.MaxTotal/api.MaxDocs)})
	}
	for i := range api.MaxSessions {
		full.Sessions = append(full.Sessions, api.Session{Client: end - 8 + i, Seq: end - 1, Used: end - 1})
	}
	for _, s := range []api.State{{}, someState(), full} {
		if e := machine.Check(s); e != api.OK {
			t.Errorf("Check: %v", e)
		}
		build(t, s)
	}
	change := func(f func(s *api.State)) api.State {
		s := someState()
		f(&s)
		return s
	}
	for i, s := range []api.State{
		{Index: -1},
		{Index: end},
		{Index: 1<<63 - 1},
		change(func(s *api.State) { s.Docs[0].ID = "" }),
		change(func(s *api.State) { s.Docs[0].ID = "b" }),
		change(func(s *api.State) { s.Docs[0].ID = "c" }),
		change(func(s *api.State) { s.Docs[1].ID = strings.Repeat("b", 65) }),
		change(func(s *api.State) { s.Docs[1].Text = strings.Repeat("b", api.MaxDoc+1) }),
		change(func(s *api.State) { s.Docs = append(full.Docs, api.Doc{ID: "z"}) }),
		change(func(s *api.State) { s.Docs = slices.Clone(full.Docs); s.Docs[5].Text += "x" }),
		change(func(s *api.State) { s.Sessions[0].Client = 0 }),
		change(func(s *api.State) { s.Sessions[0].Client = 4 }),
		change(func(s *api.State) { s.Sessions[1].Seq = -1 }),
		change(func(s *api.State) { s.Sessions[1].Used = end }),
		change(func(s *api.State) { s.Sessions[1].Reply.N = -1 }),
		change(func(s *api.State) { s.Sessions[1].Reply.Err = 11 }),
		change(func(s *api.State) { s.Sessions[1].Reply.Hits = []api.Hit{{}} }),
		change(func(s *api.State) { s.Sessions = append(full.Sessions, api.Session{Client: end - 1}) }),
	} {
		m, e := machine.New(s)
		if machine.Check(s) != api.ErrForm || m != nil || e != api.ErrForm {
			t.Errorf("state %d: %v, %v, %v", i, machine.Check(s), m, e)
		}
	}
}

// long is text so that it and an ID of one byte are as much as a command may have.
var long = strings.Repeat("x", api.MaxEntry/2-1)

var validCommands = []api.Command{
	{Kind: api.CmdOpen},
	{Kind: api.CmdAdd, Client: 1, Seq: 1},
	{Kind: api.CmdAdd, Client: end - 1, Seq: end - 1, ID: "a", Text: "x"},
	{Kind: api.CmdAdd, Client: 1, Seq: 1, ID: "a", Text: long},
	{Kind: api.CmdAdd, Client: 1, Seq: 1, ID: long + "x"},
	{Kind: api.CmdDelete, Client: 1, Seq: 1},
	{Kind: api.CmdDelete, Client: end - 1, Seq: end - 1, ID: long + "x"},
	{Kind: api.CmdClose, Client: 1, Seq: 1},
	{Kind: api.CmdClose, Client: end - 1, Seq: end - 1},
}

var invalidCommands = []api.Command{
	{},
	{Kind: -1, Client: 1, Seq: 1},
	{Kind: 5, Client: 1, Seq: 1},
	{Kind: api.AskSearch, Text: "x"},
	{Kind: api.AskSearch, Client: 1, Seq: 1},
	{Kind: api.CmdNone, Client: 1, Seq: 1},
	{Kind: api.CmdOpen, Client: 1},
	{Kind: api.CmdOpen, Seq: 1},
	{Kind: api.CmdOpen, ID: "a"},
	{Kind: api.CmdOpen, Text: "a"},
	{Kind: api.CmdAdd, Seq: 1},
	{Kind: api.CmdAdd, Client: 1},
	{Kind: api.CmdAdd, Client: -1, Seq: 1},
	{Kind: api.CmdAdd, Client: 1, Seq: -1},
	{Kind: api.CmdAdd, Client: end, Seq: 1},
	{Kind: api.CmdAdd, Client: 1, Seq: end},
	{Kind: api.CmdAdd, Client: 1, Seq: 1, ID: "ab", Text: long},
	{Kind: api.CmdAdd, Client: 1, Seq: 1, Text: long + "xx"},
	{Kind: api.CmdDelete, Seq: 1, ID: "a"},
	{Kind: api.CmdDelete, Client: 1, ID: "a"},
	{Kind: api.CmdDelete, Client: end, Seq: 1, ID: "a"},
	{Kind: api.CmdDelete, Client: 1, Seq: 1, ID: "a", Text: "x"},
	{Kind: api.CmdDelete, Client: 1, Seq: 1, ID: long + "xx"},
	{Kind: api.CmdClose, Client: 1},
	{Kind: api.CmdClose, Seq: 1},
	{Kind: api.CmdClose, Client: 1, Seq: end},
	{Kind: api.CmdClose, Client: 1, Seq: 1, ID: "a"},
	{Kind: api.CmdClose, Client: 1, Seq: 1, Text: "a"},
}

// P15.1: valid and invalid commands; P15.2: these are not applied.
func TestCommands(t *testing.T) {
	for _, c := range validCommands {
		if e := machine.Command(c); e != api.OK {
			t.Errorf("Command(%.60v): %v", c, e)
		}
	}
	m := build(t, someState())
	for _, c := range invalidCommands {
		r := m.Apply(21, c)
		if e := machine.Command(c); e != api.ErrForm || !same(r, api.Reply{Err: api.ErrForm}) || !same(m.State(), someState()) {
			t.Errorf("Command(%.60v): %v, %v", c, e, r)
		}
	}
}

// P15.2: indexes at which nothing is applied.
func TestIndexes(t *testing.T) {
	m := build(t, someState())
	for _, index := range []int{20, 19, 1, 0, -1, end, end + 1, -1 << 63, 1<<63 - 1} {
		for _, c := range []api.Command{{Kind: api.CmdOpen}, {Kind: api.CmdAdd, Client: 4, Seq: 1, ID: "c"}, {Kind: api.CmdClose, Client: 3, Seq: 6}} {
			if r := m.Apply(index, c); !same(r, api.Reply{Err: api.ErrForm}) || !same(m.State(), someState()) {
				t.Errorf("Apply(%d, %v): %v", index, c, r)
			}
		}
		if e := m.Skip(index); e != api.ErrForm || !same(m.State(), someState()) {
			t.Errorf("Skip(%d): %v", index, e)
		}
	}
	want := someState()
	for _, index := range []int{21, 30, end - 1} {
		want.Index = index
		if e := m.Skip(index); e != api.OK || !same(m.State(), want) {
			t.Errorf("Skip(%d): %v, %v", index, e, m.State())
		}
	}
}

// apply applies a command and holds the reply and the state against what they must be.
func apply(t *testing.T, m *machine.Machine, index int, c api.Command, r api.Reply, s api.State) {
	t.Helper()
	s.Index = index
	if got := m.Apply(index, c); !same(got, r) || !same(m.State(), s) {
		t.Fatalf("Apply(%d, %v): %v, %v, not %v, %v", index, c, got, m.State(), r, s)
	}
}

// P15.2: one command after the other.
func TestApply(t *testing.T) {
	m, s := build(t, someState()), someState()
	add := func(client, seq int, id, text string) api.Command {
		return api.Command{Kind: api.CmdAdd, Client: client, Seq: seq, ID: id, Text: text}
	}
	remove := func(client, seq int, id string) api.Command {
		return api.Command{Kind: api.CmdDelete, Client: client, Seq: seq, ID: id}
	}
	last := func(i, seq, used int, e api.Errno) {
		s.Sessions[i].Seq, s.Sessions[i].Used, s.Sessions[i].Reply = seq, used, api.Reply{Err: e}
	}
	// The last request again, an older one, nobody's.
	apply(t, m, 21, add(3, 5, "new", ""), api.Reply{Err: api.ErrThere}, s)
	apply(t, m, 22, add(3, 4, "new", ""), api.Reply{Err: api.ErrOld}, s)
	apply(t, m, 23, add(5, 1, "new", ""), api.Reply{Err: api.ErrSession}, s)
	apply(t, m, 24, api.Command{Kind: api.CmdClose, Client: 3, Seq: 5}, api.Reply{Err: api.ErrThere}, s)
	// A session has this index as its Client.
	apply(t, m, 25, api.Command{Kind: api.CmdOpen}, api.Reply{Err: api.ErrForm}, s)
	s.Sessions = append(s.Sessions, api.Session{Client: 26, Used: 26})
	apply(t, m, 26, api.Command{Kind: api.CmdOpen}, api.Reply{N: 26}, s)
	s.Docs = append(s.Docs, api.Doc{ID: "c", Text: "y"})
	last(3, 1, 27, api.OK)
	apply(t, m, 27, add(26, 1, "c", "y"), api.Reply{}, s)
	apply(t, m, 28, add(26, 1, "c", "y"), api.Reply{}, s)
	last(3, 7, 29, api.ErrThere)
	apply(t, m, 29, add(26, 7, "c", "z"), api.Reply{Err: api.ErrThere}, s)
	last(3, 8, 30, api.ErrForm)
	apply(t, m, 30, add(26, 8, "", "z"), api.Reply{Err: api.ErrForm}, s)
	last(0, 6, 31, api.ErrNone)
	apply(t, m, 31, remove(3, 6, "d"), api.Reply{Err: api.ErrNone}, s)
	last(0, 7, 32, api.OK)
	s.Docs = s.Docs[1:]
	apply(t, m, 32, remove(3, 7, "a"), api.Reply{}, s)
	apply(t, m, 40, remove(3, 7, "a"), api.Reply{}, s)
	last(0, 8, 41, api.ErrForm)
	apply(t, m, 41, remove(3, 8, ""), api.Reply{Err: api.ErrForm}, s)
	s.Sessions = s.Sessions[1:]
	apply(t, m, 42, api.Command{Kind: api.CmdClose, Client: 3, Seq: 9}, api.Reply{}, s)
	apply(t, m, 43, api.Command{Kind: api.CmdClose, Client: 3, Seq: 9}, api.Reply{Err: api.ErrSession}, s)
	apply(t, m, 44, remove(3, 10, "b"), api.Reply{Err: api.ErrSession}, s)
}

// P15.2: when all sessions are taken, the one that was not used for the longest time goes.
func TestEviction(t *testing.T) {
	m := build(t, api.State{})
	for i := range api.MaxSessions {
		m.Apply(i+1, api.Command{Kind: api.CmdOpen})
	}
	m.Apply(9, api.Command{Kind: api.CmdDelete, Client: 1, Seq: 1, ID: "a"})
	m.Apply(10, api.Command{Kind: api.CmdDelete, Client: 1, Seq: 1, ID: "a"})
	if r := m.Apply(11, api.Command{Kind: api.CmdOpen}); !same(r, api.Reply{N: 11}) {
		t.Errorf("CmdOpen: %v", r)
	}
	if r := m.Apply(12, api.Command{Kind: api.CmdDelete, Client: 2, Seq: 1, ID: "a"}); !same(r, api.Reply{Err: api.ErrSession}) {
		t.Errorf("the session that went: %v", r)
	}
	if r := m.Apply(13, api.Command{Kind: api.CmdDelete, Client: 1, Seq: 1, ID: "a"}); !same(r, api.Reply{Err: api.ErrNone}) {
		t.Errorf("a session that was used: %v", r)
	}
}

// The chapter's example.
func TestExample(t *testing.T) {
	m := build(t, api.State{})
	m.Apply(1, api.Command{Kind: api.CmdOpen})
	c := api.Command{Kind: api.CmdAdd, Client: 1, Seq: 1, ID: "a", Text: "x"}
	if a, b := m.Apply(2, c), m.Apply(3, c); a.Err != api.OK || b.Err != api.OK || len(m.State().Docs) != 1 {
		t.Errorf("%v, %v, %v", a, b, m.State())
	}
}

// P15.3: searches.
func TestSearch(t *testing.T) {
	m := build(t, someState())
	for _, c := range []struct {
		p     string
		limit int
		r     api.Reply
	}{
		{"x", 1000, api.Reply{N: 3, Hits: []api.Hit{{ID: "a"}, {ID: "a", At: 1}, {ID: "b"}}}},
		{"x", 2, api.Reply{N: 3, Hits: []api.Hit{{ID: "a"}, {ID: "a", At: 1}}}},
		{"xx", 1, api.Reply{N: 1, Hits: []api.Hit{{ID: "a"}}}},
		{"y", 1, api.Reply{}},
		{"", 1, api.Reply{Err: api.ErrEmpty}},
		{"x", 0, api.Reply{Err: api.ErrLimit}},
		{"x", 1001, api.Reply{Err: api.ErrLimit}},
		{strings.Repeat("x", api.MaxPattern+1), 1, api.Reply{Err: api.ErrLimit}},
	} {
		if r := m.Search(c.p, c.limit); !same(r, c.r) || !same(m.State(), someState()) {
			t.Errorf("Search(%.5q, %d): %v, not %v", c.p, c.limit, r, c.r)
		}
	}
}

type chance uint64

func (c *chance) below(n int) int {
	*c = *c*6364136223846793005 + 1442695040888963407
	return int(*c >> 33 % chance(n))
}

func (c *chance) command() api.Command {
	id := string(rune('A' + c.below(70)))
	q := api.Command{Kind: 1 + c.below(30), Client: 1 + c.below(9), Seq: 1 + c.below(400), ID: id}
	switch {
	case q.Kind == api.CmdOpen:
		return api.Command{Kind: api.CmdOpen}
	case q.Kind == api.CmdClose:
		q.ID = ""
	case q.Kind > 12:
		q.Kind = api.CmdAdd
		q.Text = strings.Repeat("ab", c.below(600))
	case q.Kind > 4:
		q.Kind = api.CmdDelete
	}
	return q
}

// P15.4: a machine, one that is made anew of its state before each command, and sessions and documents by their words.
func TestAgainstOthers(t *testing.T) {
	for seed := range 5 {
		c := chance(seed + 100)
		m := build(t, api.State{})
		again := build(t, api.State{})
		for index := 1; index < 250; index++ {
			q := c.command()
			if index <= 6 {
				q = api.Command{Kind: api.CmdOpen}
			}
			before := m.State()
			if index%5 == 0 {
				again = build(t, before)
			}
			a, b := m.Apply(index, q), again.Apply(index, q)
			if !same(a, b) || !same(m.State(), again.State()) {
				t.Fatalf("seed %d: Apply(%d, %.60v): %v, %v", seed, index, q, a, b)
			}
			if r, s := plainApply(before, index, q); !same(a, r) || !same(m.State(), s) {
				t.Fatalf("seed %d: Apply(%d, %.60v): %v, not %v", seed, index, q, a, r)
			}
			if index%20 == 0 && !same(m.Search("ba", 9), again.Search("ba", 9)) {
				t.Fatalf("seed %d: Search after %d", seed, index)
			}
		}
	}
}

// plainApply applies a valid command to a state that is plain data.
func plainApply(s api.State, index int, c api.Command) (api.Reply, api.State) {
	s.Index = index
	if c.Kind == api.CmdOpen {
		l, e := session.Open(s.Sessions, index)
		if e != api.OK {
			return api.Reply{Err: api.ErrForm}, s
		}
		s.Sessions = l
		return api.Reply{N: index}, s
	}
	r, known, e := session.Begin(s.Sessions, c.Client, c.Seq)
	if e != api.OK || known {
		r.Err = max(e, r.Err)
		return r, s
	}
	if c.Kind == api.CmdClose {
		s.Sessions, _ = session.Close(s.Sessions, c.Client)
		return api.Reply{}, s
	}
	total := 0
	for _, d := range s.Docs {
		total += len(d.Text)
	}
	at, there := slices.BinarySearchFunc(s.Docs, c.ID, func(d api.Doc, id string) int { return strings.Compare(d.ID, id) })
	switch {
	case c.Kind == api.CmdAdd && there:
		r.Err = api.ErrThere
	case c.Kind == api.CmdAdd && (len(s.Docs) == api.MaxDocs || total+len(c.Text) > api.MaxTotal):
		r.Err = api.ErrFull
	case c.Kind == api.CmdAdd:
		s.Docs = slices.Insert(s.Docs, at, api.Doc{ID: c.ID, Text: c.Text})
	case !there:
		r.Err = api.ErrNone
	default:
		s.Docs = slices.Delete(s.Docs, at, at+1)
	}
	s.Sessions, _ = session.Done(s.Sessions, c.Client, c.Seq, r, index)
	return r, s
}

// R2: arguments are not kept, results are new.
func TestMemory(t *testing.T) {
	s := someState()
	m := build(t, s)
	s.Docs[0].ID, s.Sessions[0].Client = "other", 99
	got := m.State()
	got.Docs[0].ID, got.Sessions[0].Client = "other", 99
	_, _ = append(got.Docs[:1], api.Doc{}), append(got.Sessions[:1], api.Session{})
	m.Search("x", 9).Hits[0].ID = "other"
	if !same(m.State(), someState()) || m.Search("x", 9).Hits[0].ID != "a" {
		t.Errorf("%v", m.State())
	}
}
