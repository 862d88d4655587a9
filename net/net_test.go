package net_test

import (
	"fmt"
	"slices"
	"testing"

	"lectern/api"
	"lectern/net"
)

// same holds two values against each other; a nil list is an empty one.
func same(a, b any) bool {
	return show(a) == show(b)
}

// show tells numbers as numbers, and texts so that none looks like two.
func show(a any) string {
	return fmt.Sprintf("%+v %+q", a, a)
}

// message is one that has a number.
func message(n int) api.Rpc {
	return api.Rpc{Kind: api.AskAppend, From: 1, To: 2, Term: n, Index: 3, LogTerm: 4, Commit: 5, Round: 6, Ok: true, Entries: []api.Entry{{Index: 4, Term: n, Data: "d"}}, At: 7, Data: "data", Done: true}
}

// sent is a message of the plain network, which keeps them as they were sent.
type sent struct {
	at, n int
}

type plain struct{ l []sent }

func mod(a, b int) int { return ((a % b) + b) % b }

func (p *plain) put(n, now, pick int) {
	q := (pick - mod(pick, 4)) / 4
	d := now + 2 + mod(q, 8)
	for _, at := range map[int][]int{0: {now + 1}, 2: {d}, 3: {now + 1, d}}[mod(pick, 4)] {
		if len(p.l) < 4096 {
			p.l = append(p.l, sent{at, n})
		}
	}
}

func (p *plain) take(now int) []api.Rpc {
	due := slices.DeleteFunc(slices.Clone(p.l), func(s sent) bool { return s.at > now })
	slices.SortStableFunc(due, func(a, b sent) int { return a.at - b.at })
	p.l = slices.DeleteFunc(p.l, func(s sent) bool { return s.at <= now })
	var out []api.Rpc
	for _, s := range due {
		out = append(out, message(s.n))
	}
	return out
}

// P22.1: what every pick does to one message.
func TestPicks(t *testing.T) {
	picks := []int{-1 << 63, -1<<63 + 1, -1<<63 + 2, -1<<63 + 3, 1<<63 - 1, 1<<63 - 2, 1<<63 - 3, 1<<63 - 4}
	for pick := -80; pick < 80; pick++ {
		picks = append(picks, pick)
	}
	for _, pick := range picks {
		for _, now := range []int{0, 5, -5, 1 << 61} {
			n, p := net.New(), &plain{}
			n.Put(message(9), now, pick)
			p.put(9, now, pick)
			if n.Count() != len(p.l) {
				t.Fatalf("pick %d: %d in transit, not %d", pick, n.Count(), len(p.l))
			}
			for at := now; at < now+11; at++ {
				if got, want := n.Take(at), p.take(at); !same(got, want) {
					t.Fatalf("pick %d: at %d of %d: %v, not %v", pick, at, now, got, want)
				}
			}
			if n.Count() != 0 {
				t.Fatalf("pick %d: %d left", pick, n.Count())
			}
		}
	}
}

// P22.1: many messages, by arrival and then as they were sent.
func TestOrder(t *testing.T) {
	for seed := range 10 {
		n, p := net.New(), &plain{}
		s := uint64(seed)
		now := 0
		for i := range 2000 {
			s = s*6364136223846793005 + 1442695040888963407
			switch k := s >> 33 % 10; {
			case k < 8:
				pick := int(s >> 40 % 64)
				n.Put(message(i), now, pick)
				p.put(i, now, pick)
			case k < 9:
				now += int(s >> 50 % 4)
				if got, want := n.Take(now), p.take(now); !same(got, want) {
					t.Fatalf("seed %d, %d: %v, not %v", seed, i, got, want)
				}
			case s>>50%20 == 0:
				n.Clear()
				p.l = nil
			}
			if n.Count() != len(p.l) {
				t.Fatalf("seed %d, %d: %d in transit, not %d", seed, i, n.Count(), len(p.l))
			}
		}
	}
}

// P22.1: the limit of messages in transit, for each of two copies by itself.
func TestLimit(t *testing.T) {
	n, p := net.New(), &plain{}
	put := func(i, now, pick int) {
		n.Put(message(i), now, pick)
		p.put(i, now, pick)
	}
	for i := range 4095 {
		put(i, 10, 4*(i%8)+2)
	}
	put(5000, 10, 3)
	if n.Count() != 4096 {
		t.Errorf("%d in transit", n.Count())
	}
	put(5001, 0, 0)
	put(5002, 0, 3)
	put(5003, 0, 2)
	if n.Count() != 4096 {
		t.Errorf("%d in transit", n.Count())
	}
	if got, want := n.Take(11), p.take(11); len(got) != 1 || !same(got, want) {
		t.Errorf("%v, not %v", got, want)
	}
	put(5004, 11, 0)
	put(5005, 11, 0)
	for now := 12; now < 22; now++ {
		if got, want := n.Take(now), p.take(now); !same(got, want) {
			t.Errorf("at %d: %d messages, not %d", now, len(got), len(want))
		}
	}
}

// The chapter's example; P22.2.
func TestExample(t *testing.T) {
	n := net.New()
	n.Put(message(1), 0, 0)
	if l := n.Take(0); len(l) != 0 || n.Count() != 1 {
		t.Errorf("too early: %v", l)
	}
	if l := n.Take(1); !same(l, []api.Rpc{message(1)}) {
		t.Errorf("%v", l)
	}
	if l := n.Take(100); len(l) != 0 || n.Count() != 0 {
		t.Errorf("again: %v", l)
	}
	n.Put(api.Rpc{}, 0, 0)
	n.Clear()
	if l := n.Take(100); len(l) != 0 || n.Count() != 0 {
		t.Errorf("cleared: %v", l)
	}
}

// R2: arguments are not kept, and two copies share nothing.
func TestMemory(t *testing.T) {
	n := net.New()
	m := message(1)
	n.Put(m, 0, 3)
	m.Entries[0].Data = "other"
	a := n.Take(1)
	if !same(a, []api.Rpc{message(1)}) {
		t.Errorf("%v", a)
	}
	a[0].Entries[0].Data = "other"
	if b := n.Take(2); !same(b, []api.Rpc{message(1)}) {
		t.Errorf("%v", b)
	}
}
