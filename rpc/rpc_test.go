package rpc_test

import (
	"bytes"
	"encoding/binary"
	"fmt"
	"hash/crc32"
	"slices"
	"strings"
	"testing"

	"lectern/api"
	"lectern/rpc"
	"lectern/wire"
)

const (
	end     = 1 << 40
	maxBase = end - 2048
)

// same holds two values against each other; a nil list is an empty one.
func same(a, b any) bool {
	return show(a) == show(b)
}

// show tells numbers as numbers, and texts so that none looks like two.
func show(a any) string {
	return fmt.Sprintf("%+v %+q", a, a)
}

// list returns n entries from an index on.
func list(n, from, term, size int) []api.Entry {
	var l []api.Entry
	for i := range n {
		l = append(l, api.Entry{Index: from + i, Term: term, Data: strings.Repeat("d", size)})
	}
	return l
}

// messages are valid, of all kinds, with all their fields.
func messages() []api.Rpc {
	return []api.Rpc{
		{Kind: api.AskVote, From: 1, To: 2},
		{Kind: api.AskVote, From: 2, To: 1},
		{Kind: api.AskVote, From: 7, To: 7, Term: end - 1, Index: end - 1, LogTerm: end - 1},
		{Kind: api.TellVote, From: 1, To: 2, Term: 5},
		{Kind: api.TellVote, From: 1, To: 2, Term: 5, Ok: true},
		{Kind: api.AskAppend, From: 1, To: 2, Term: 5},
		{Kind: api.AskAppend, From: 1, To: 2, Term: 5, Index: 3, LogTerm: 2, Commit: 9, Round: 4},
		{Kind: api.AskAppend, From: 1, To: 2, Term: 5, Index: 3, LogTerm: 2, Commit: 3, Round: 4, Entries: list(3, 4, 2, 5)},
		{Kind: api.AskAppend, From: 1, To: 2, Term: 5, Entries: []api.Entry{{Index: 1, Term: 0}, {Index: 2, Term: 7, Data: "\x00\xff"}}},
		{Kind: api.AskAppend, From: 1, To: 2, Term: end - 1, Index: end - 1, LogTerm: end - 1, Commit: end - 1, Round: end - 1, Entries: list(1, end, end-1, 0)},
		{Kind: api.AskAppend, From: 1, To: 2, Term: 1, Entries: list(api.MaxSend, 1, 0, api.MaxEntry)},
		{Kind: api.TellAppend, From: 1, To: 2, Term: 5},
		{Kind: api.TellAppend, From: 1, To: 2, Term: 5, Ok: true, Index: end - 1, Round: end - 1},
		{Kind: api.AskSnap, From: 1, To: 2, Index: 1},
		{Kind: api.AskSnap, From: 1, To: 2, Index: maxBase, LogTerm: end - 1, Round: end - 1, At: api.MaxSnap, Data: strings.Repeat("d", api.MaxPart), Done: true},
		{Kind: api.AskSnap, From: 1, To: 2, Index: 1, Data: "\x00"},
		{Kind: api.TellSnap, From: 1, To: 2},
		{Kind: api.TellSnap, From: 1, To: 2, Term: 1, Index: end - 1, At: end - 1, Round: end - 1},
	}
}

// set gives one field of a message a value.
func set(m api.Rpc, field string, n int) api.Rpc {
	switch field {
	case "Kind":
		m.Kind = n
	case "From":
		m.From = n
	case "To":
		m.To = n
	case "Term":
		m.Term = n
	case "Index":
		m.Index = n
	case "LogTerm":
		m.LogTerm = n
	case "Commit":
		m.Commit = n
	case "Round":
		m.Round = n
	case "At":
		m.At = n
	case "Ok":
		m.Ok = true
	case "Done":
		m.Done = true
	case "Data":
		m.Data = strings.Repeat("x", n)
	case "Entries":
		m.Entries = list(n, m.Index+1, m.LogTerm, 1)
	}
	return m
}

// P25.1: each kind has its fields, in their ranges, and no others.
func TestCheck(t *testing.T) {
	for _, m := range messages() {
		if e := rpc.Check(m); e != api.OK {
			t.Errorf("Check of %.200v: %v", m, e)
		}
	}
	fields := []string{"", "Index LogTerm", "Ok", "Index LogTerm Commit Round Entries", "Ok Index Round", "Index LogTerm Round At Data Done", "Index At Round"}
	for kind := api.AskVote; kind <= api.TellSnap; kind++ {
		base := api.Rpc{Kind: kind, From: 1, To: 2}
		if kind == api.AskSnap {
			base.Index = 1
		}
		for _, field := range []string{"Index", "LogTerm", "Commit", "Round", "At", "Ok", "Done", "Data", "Entries"} {
			want := api.ErrForm
			if slices.Contains(strings.Fields(fields[kind]), field) {
				want = api.OK
			}
			if e := rpc.Check(set(base, field, 1)); e != want && !(kind == api.AskSnap && field == "Index") {
				t.Errorf("kind %d with %s: %v", kind, field, e)
			}
		}
		for _, c := range []struct {
			field string
			n     int
			e     api.Errno
		}{
			{"From", 0, api.ErrForm}, {"From", -1, api.ErrForm}, {"From", 8, api.ErrForm}, {"From", 7, api.OK},
			{"To", 0, api.ErrForm}, {"To", -1, api.ErrForm}, {"To", 8, api.ErrForm}, {"To", 7, api.OK},
			{"Term", -1, api.ErrForm}, {"Term", end, api.ErrForm}, {"Term", end - 1, api.OK}, {"Term", 1<<63 - 1, api.ErrForm},
			{"Index", -1, api.ErrForm}, {"Index", end, api.ErrForm}, {"LogTerm", -1, api.ErrForm}, {"LogTerm", end, api.ErrForm},
			{"Commit", -1, api.ErrForm}, {"Commit", end, api.ErrForm}, {"Round", -1, api.ErrForm}, {"Round", end, api.ErrForm},
			{"At", -1, api.ErrForm}, {"At", end, api.ErrForm},
		} {
			if e := rpc.Check(set(base, c.field, c.n)); e != c.e {
				t.Errorf("kind %d, %s %d: %v", kind, c.field, c.n, e)
			}
		}
	}
	for _, kind := range []int{0, -1, 7, 1<<63 - 1} {
		if e := rpc.Check(api.Rpc{Kind: kind, From: 1, To: 2}); e != api.ErrForm {
			t.Errorf("kind %d: %v", kind, e)
		}
	}
}

// P25.1: invalid entries and parts of snapshots.
func TestCheckMore(t *testing.T) {
	app := api.Rpc{Kind: api.AskAppend, From: 1, To: 2, Term: 9, Index: 3, LogTerm: 2}
	snap := api.Rpc{Kind: api.AskSnap, From: 1, To: 2, Term: 9, Index: 3, LogTerm: 2}
	for i, es := range [][]api.Entry{
		list(17, 4, 2, 0),
		list(1, 3, 2, 0),
		list(1, 5, 2, 0),
		list(1, 4, 1, 0),
		list(1, 4, -1, 0),
		list(1, 4, end, 0),
		list(1, 4, 2, api.MaxEntry+1),
		append(list(1, 4, 3, 0), list(1, 5, 2, 0)...),
		append(list(1, 4, 3, 0), list(1, 6, 3, 0)...),
		append(list(1, 4, 3, 0), list(1, 4, 3, 0)...),
	} {
		m := app
		m.Entries = es
		if e := rpc.Check(m); e != api.ErrForm {
			t.Errorf("entries %d: %v", i, e)
		}
	}
	for _, c := range []struct {
		field string
		n     int
		e     api.Errno
	}{
		{"Index", 0, api.ErrForm}, {"Index", maxBase + 1, api.ErrForm}, {"Index", maxBase, api.OK},
		{"At", api.MaxSnap, api.OK}, {"At", api.MaxSnap + 1, api.ErrForm},
		{"Data", api.MaxPart, api.OK}, {"Data", api.MaxPart + 1, api.ErrForm},
	} {
		if e := rpc.Check(set(snap, c.field, c.n)); e != c.e {
			t.Errorf("AskSnap, %s %d: %v", c.field, c.n, e)
		}
	}
	if b, e := rpc.Encode(set(snap, "Index", 0)); len(b) != 0 || e != api.ErrForm {
		t.Errorf("Encode: %x, %v", b, e)
	}
}

func encode(t *testing.T, m api.Rpc) []byte {
	t.Helper()
	b, e := rpc.Encode(m)
	if e != api.OK || len(b) == 0 {
		t.Fatalf("Encode of %.200v: %d bytes, %v", m, len(b), e)
	}
	return b
}

// P25.1, P25.2: a message and back; no encoding begins with another one.
func TestThereAndBack(t *testing.T) {
	l := messages()
	for i, m := range l {
		b := encode(t, m)
		got, e := rpc.Decode(b)
		if e != api.OK || !same(got, m) {
			t.Errorf("Decode: %.200v, %v, not %.200v", got, e, m)
		}
		if !bytes.Equal(encode(t, got), b) {
			t.Errorf("two encodings of %.200v", m)
		}
		for j, other := range l {
			if i != j && bytes.HasPrefix(b, encode(t, other)) {
				t.Errorf("%.200v begins with %.200v", m, other)
			}
		}
	}
	if a, b := encode(t, l[0]), encode(t, api.Rpc{Kind: api.AskVote, From: 1, To: 2, Entries: []api.Entry{}}); !bytes.Equal(a, b) {
		t.Errorf("an empty list and none are not the same")
	}
}

// takesOwn checks that bytes are refused, or are the encoding of what they are taken for.
func takesOwn(t *testing.T, b []byte) bool {
	t.Helper()
	m, e := rpc.Decode(b)
	if e == api.OK {
		if again, e := rpc.Encode(m); e != api.OK || !bytes.Equal(again, b) {
			t.Errorf("Decode(%x): not its encoding", b)
		}
		return true
	}
	if e != api.ErrForm || !same(m, api.Rpc{}) {
		t.Errorf("Decode(%x): %v, %v", b, m, e)
	}
	return false
}

// P25.1: Decode takes encodings and nothing else.
func TestDecodeErrors(t *testing.T) {
	takesOwn(t, nil)
	for x := range 1 << 16 {
		takesOwn(t, []byte{byte(x), byte(x >> 8)})
	}
	seed := uint64(1)
	for _, m := range messages() {
		b := encode(t, m)
		for i := 0; i < len(b); i += 1 + len(b)/60 {
			if takesOwn(t, b[:i]) {
				t.Errorf("%d bytes of %.200v are taken", i, m)
			}
			for x := 0; x < 256; x += 1 + len(b)/200 {
				d := slices.Clone(b)
				d[i] = byte(x)
				takesOwn(t, d)
				takesOwn(t, slices.Insert(slices.Clone(b), i, byte(x)))
			}
		}
		if takesOwn(t, append(slices.Clone(b), 0)) || takesOwn(t, append(slices.Clone(b), b...)) || takesOwn(t, b[:len(b)-1]) {
			t.Errorf("more or less than %.200v is taken", m)
		}
		for range 300 {
			d := slices.Clone(b)
			for range 4 {
				seed = seed*6364136223846793005 + 1442695040888963407
				d[int(seed>>33)%len(d)] = byte(seed >> 56)
			}
			takesOwn(t, d)
		}
	}
}

// sealed puts a checksum behind bytes, as an encoding may have it.
func sealed(b []byte) []byte {
	return binary.LittleEndian.AppendUint32(slices.Clone(b), crc32.ChecksumIEEE(b))
}

// P25.1: a right checksum is not enough.
func TestRightChecksums(t *testing.T) {
	takesOwn(t, sealed(nil))
	for _, m := range messages()[:9] {
		b := encode(t, m)
		b = b[:len(b)-4]
		for i := 0; i < len(b); i += 1 + len(b)/60 {
			takesOwn(t, sealed(b[:i]))
			for x := range 256 {
				d := slices.Clone(b)
				d[i] = byte(x)
				takesOwn(t, sealed(d))
				takesOwn(t, sealed(slices.Insert(slices.Clone(b), i, byte(x))))
			}
			takesOwn(t, sealed(slices.Delete(slices.Clone(b), i, i+1)))
		}
		takesOwn(t, sealed(append(slices.Clone(b), 0)))
	}
	words := []string{"", "\x00", "\x01", "\x02", "\x03", "\x04", "\x05", "\x06", "\x80", "\x81\x00", "\x80\x01", "\xff\xff\xff\xff\xff\xff\xff\xff\x7f", "\x01\x01"}
	seed := uint64(3)
	for range 20000 {
		var l []string
		seed = seed*6364136223846793005 + 1442695040888963407
		for range seed >> 33 % 19 {
			seed = seed*6364136223846793005 + 1442695040888963407
			l = append(l, words[seed>>33%uint64(len(words))])
		}
		b, _ := wire.Put(l...)
		takesOwn(t, sealed(b))
	}
}

// R2: arguments are neither changed nor kept.
func TestMemory(t *testing.T) {
	m := messages()[7]
	b := encode(t, m)
	before := slices.Clone(b)
	got, _ := rpc.Decode(b)
	if !bytes.Equal(b, before) {
		t.Errorf("the argument changed")
	}
	clear(b)
	m.Entries[0].Data = "other"
	if !same(got, messages()[7]) {
		t.Errorf("%v", got)
	}
}
