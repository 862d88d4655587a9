package node

import (
	"slices"

	"lectern/api"
	"lectern/command"
	"lectern/image"
	"lectern/machine"
	"lectern/raft"
)

// request is one that was accepted and is not answered: a command with the index and the term of its entry, or a search.
type request struct {
	n     int
	q     api.Request
	index int
	term  int
}

func commandOf(q api.Request) api.Command {
	return api.Command{Kind: q.Kind, Client: q.Client, Seq: q.Seq, ID: q.ID, Text: q.Text}
}

func valid(q api.Request) bool {
	if q.Kind == api.AskSearch {
		return q.Client == 0 && q.Seq == 0 && q.ID == "" && len(q.Text) <= api.MaxEntry/2
	}
	return q.Limit == 0 && machine.Command(commandOf(q)) == api.OK
}

// step is a call that changes a node: what it is like after it. Nothing of it is to be seen ahead of its end.
type step struct {
	*Node
	next  api.Raft
	out   []api.Rpc
	fresh *machine.Machine // of a snapshot that was installed
	asked []request
	told  []Answer
}

// ask proposes the command that was asked, or registers the search.
func (s *step) ask() api.Errno {
	a := &s.asked[0]
	var e api.Errno
	if a.q.Kind == api.AskSearch {
		s.next, s.out, e = raft.Read(s.raft, a.n)
		a.term = s.next.Term
		return e
	}
	b, e := command.Bytes(commandOf(a.q))
	if e != api.OK {
		return e
	}
	s.next, s.out, a.index, e = raft.Propose(s.raft, string(b))
	a.term = s.next.Term
	return e
}

// finish makes the step durable, applies what is committed, and returns the messages. After an error of the disk the node is as it was, and does nothing any more.
func (s *step) finish() ([]api.Rpc, api.Errno) {
	if s.kept.keep(s.raft, s.next) != api.OK {
		return s.fail()
	}
	old := s.machine
	due := s.next.Commit >= s.next.Log.Base+api.Snaps
	var before api.State
	if due {
		before = old.State()
	}
	if s.fresh != nil {
		s.machine = s.fresh
	}
	waiting := s.stillWaiting()
	waiting = s.apply(waiting)
	waiting = s.search(waiting)
	if due && s.compact() != api.OK {
		s.machine, _ = machine.New(before)
		return s.fail()
	}
	s.raft, s.waiting = s.next, waiting
	s.answers = append(s.answers, s.told...)
	return s.out, api.OK
}

func (s *step) fail() ([]api.Rpc, api.Errno) {
	s.works, s.waiting, s.answers = false, nil, nil
	return nil, api.ErrPower
}

// stillWaiting returns the requests that can be answered: only the leader of their term can do so.
func (s *step) stillWaiting() []request {
	return slices.DeleteFunc(slices.Concat(s.waiting, s.asked), func(r request) bool {
		return s.next.Role != api.Leader || s.next.Term != r.term
	})
}

// apply applies the entries that were committed, and returns the requests that are still not answered.
func (s *step) apply(waiting []request) []request {
	done := max(s.raft.Commit, s.next.Log.Base)
	for _, e := range s.next.Log.Entries[done-s.next.Log.Base : s.next.Commit-s.next.Log.Base] {
		reply := s.applyEntry(e)
		i := slices.IndexFunc(waiting, func(r request) bool { return r.index == e.Index })
		if i >= 0 {
			s.told = append(s.told, Answer{waiting[i].n, e.Index, reply})
			waiting = slices.Delete(waiting, i, i+1)
		}
	}
	return waiting
}

func (s *step) applyEntry(e api.Entry) api.Reply {
	c, bad := command.Parse([]byte(e.Data))
	if bad != api.OK {
		s.machine.Skip(e.Index)
		return api.Reply{}
	}
	return s.machine.Apply(e.Index, c)
}

// search answers the searches whose reads are ready: all that is committed is applied.
func (s *step) search(waiting []request) []request {
	next, reads, e := raft.Ready(s.next)
	if e != api.OK {
		return waiting
	}
	s.next = next
	for _, read := range reads {
		i := slices.IndexFunc(waiting, func(r request) bool { return r.n == read.ID })
		if i < 0 {
			continue
		}
		q := waiting[i].q
		s.told = append(s.told, Answer{read.ID, s.next.Commit, s.machine.Search(q.Text, q.Limit)})
		waiting = slices.Delete(waiting, i, i+1)
	}
	return waiting
}

// compact compacts the log at Commit, where the machine is, and makes that durable.
func (s *step) compact() api.Errno {
	b, e := image.Bytes(s.machine.State())
	if e != api.OK {
		return e
	}
	next, e := raft.Compact(s.next, s.next.Commit, string(b))
	if e != api.OK {
		// An index beyond which no log can begin.
		return api.OK
	}
	if e := s.kept.keep(s.next, next); e != api.OK {
		return e
	}
	s.next = next
	return api.OK
}
