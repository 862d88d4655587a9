package image_test

import (
	"bytes"
	"encoding/binary"
	"fmt"
	"hash/crc32"
	"slices"
	"strings"
	"testing"

	"lectern/api"
	"lectern/image"
	"lectern/machine"
	"lectern/wire"
)

const end = 1 << 40

// same holds two values against each other; a nil list is an empty one.
func same(a, b any) bool {
	return show(a) == show(b)
}

// show tells numbers as numbers, and texts so that none looks like two.
func show(a any) string {
	return fmt.Sprintf("%+v %+q", a, a)
}

// greatest is a state at all limits at once.
func greatest() api.State {
	s := api.State{Index: end - 1}
	for i := range api.MaxDocs {
		s.Docs = append(s.Docs, api.Doc{ID: fmt.Sprintf("%064d", i), Text: strings.Repeat("x", api.MaxTotal/api.MaxDocs)})
	}
	for i := range api.MaxSessions {
		s.Sessions = append(s.Sessions, api.Session{Client: end - 8 + i, Seq: end - 1, Used: end - 1, Reply: api.Reply{Err: api.ErrOld, N: end - 1}})
	}
	return s
}

func states() []api.State {
	return []api.State{
		{},
		{Index: 1},
		{Index: 128},
		{Docs: []api.Doc{{ID: "a"}}},
		{Docs: []api.Doc{{ID: "a", Text: "\x01"}}},
		{Docs: []api.Doc{{ID: "\x01", Text: "\x01"}, {ID: "\x01\x01", Text: ""}}},
		{Sessions: []api.Session{{Client: 1}}},
		{Sessions: []api.Session{{Client: 1, Seq: 2, Used: 3, Reply: api.Reply{Err: 4, N: 5}}, {Client: 2}}},
		{Index: 7, Docs: []api.Doc{{ID: "a", Text: "xx"}, {ID: "b", Text: "x"}}, Sessions: []api.Session{{Client: 300, Seq: 200, Used: 128}}},
	}
}

func encode(t *testing.T, s api.State) []byte {
	t.Helper()
	b, e := image.Bytes(s)
	if e != api.OK || len(b) == 0 || len(b) > api.MaxSnap {
		t.Fatalf("Bytes of %.60v: %d bytes, %v", s, len(b), e)
	}
	return b
}

// P17.1, P17.2: a state and back, in at most MaxSnap bytes.
func TestThereAndBack(t *testing.T) {
	for _, s := range append(states(), greatest()) {
		b := encode(t, s)
		got, e := image.Parse(b)
		if e != api.OK || !same(got, s) {
			t.Errorf("Parse: %.99v, %v, not %.99v", got, e, s)
		}
		if !bytes.Equal(b, encode(t, got)) {
			t.Errorf("two encodings of %.60v", s)
		}
	}
	empty := api.State{Docs: []api.Doc{}, Sessions: []api.Session{}}
	if !bytes.Equal(encode(t, empty), encode(t, api.State{})) {
		t.Errorf("empty lists and none are not the same")
	}
}

// P17.1: no encoding is the beginning of another one.
func TestPrefixes(t *testing.T) {
	l := states()
	for i, s := range l {
		for j, other := range l {
			if i != j && bytes.HasPrefix(encode(t, s), encode(t, other)) {
				t.Errorf("%v begins with %v", s, other)
			}
		}
	}
}

// P17.1: what is no valid state.
func TestBytesErrors(t *testing.T) {
	over := greatest()
	over.Docs[0].Text += "x"
	long := greatest()
	long.Sessions = append(long.Sessions, api.Session{Client: end})
	for _, s := range []api.State{
		{Index: -1},
		{Index: end},
		{Docs: []api.Doc{{ID: ""}}},
		{Docs: []api.Doc{{ID: "b"}, {ID: "a"}}},
		{Docs: []api.Doc{{ID: "a", Text: strings.Repeat("x", api.MaxDoc+1)}}},
		{Sessions: []api.Session{{Client: 0}}},
		{Sessions: []api.Session{{Client: 1, Reply: api.Reply{Err: 11}}}},
		{Sessions: []api.Session{{Client: 1, Reply: api.Reply{Hits: []api.Hit{{}}}}}},
		{Sessions: []api.Session{{Client: 2}, {Client: 1}}},
		over,
		long,
	} {
		if b, e := image.Bytes(s); len(b) != 0 || e != api.ErrForm {
			t.Errorf("Bytes of %.60v: %d bytes, %v", s, len(b), e)
		}
	}
}

// takesOwn checks that bytes are refused, or are the encoding of what they are taken for.
func takesOwn(t *testing.T, b []byte) bool {
	t.Helper()
	s, e := image.Parse(b)
	if e == api.OK {
		if again, e := image.Bytes(s); e != api.OK || !bytes.Equal(again, b) {
			t.Errorf("Parse(%x): not its encoding", b)
		}
		return true
	}
	if e != api.ErrForm || !same(s, api.State{}) {
		t.Errorf("Parse(%x): %v, %v", b, s, e)
	}
	return false
}

// P17.1: Parse takes encodings and nothing else.
func TestParseErrors(t *testing.T) {
	takesOwn(t, nil)
	for x := range 1 << 16 {
		takesOwn(t, []byte{byte(x), byte(x >> 8)})
	}
	seed := uint64(1)
	for _, s := range states() {
		b := encode(t, s)
		for i := range b {
			if takesOwn(t, b[:i]) {
				t.Errorf("%d bytes of %v are taken", i, s)
			}
			for x := range 256 {
				d := slices.Clone(b)
				d[i] = byte(x)
				takesOwn(t, d)
				takesOwn(t, slices.Insert(slices.Clone(b), i, byte(x)))
			}
		}
		if takesOwn(t, append(slices.Clone(b), 0)) || takesOwn(t, append(slices.Clone(b), b...)) {
			t.Errorf("more than %v is taken", s)
		}
		for range 500 {
			d := slices.Clone(b)
			for range 4 {
				seed = seed*6364136223846793005 + 1442695040888963407
				d[int(seed>>33)%len(d)] = byte(seed >> 56)
			}
			takesOwn(t, d)
		}
	}
}

// P17.2: a machine of a parsed state behaves like that of the state.
func TestMachines(t *testing.T) {
	s := states()[8]
	parsed, _ := image.Parse(encode(t, s))
	a, e := machine.New(s)
	b, f := machine.New(parsed)
	if e != api.OK || f != api.OK {
		t.Fatalf("New: %v, %v", e, f)
	}
	for i, c := range []api.Command{
		{Kind: api.CmdOpen},
		{Kind: api.CmdAdd, Client: 300, Seq: 200, ID: "c"},
		{Kind: api.CmdAdd, Client: 300, Seq: 201, ID: "c", Text: "xxx"},
		{Kind: api.CmdDelete, Client: 8, Seq: 1, ID: "a"},
		{Kind: api.CmdClose, Client: 300, Seq: 202},
	} {
		if x, y := a.Apply(8+i, c), b.Apply(8+i, c); !same(x, y) {
			t.Errorf("Apply(%v): %v, %v", c, x, y)
		}
		if x, y := a.Search("x", 10), b.Search("x", 10); !same(x, y) || !same(a.State(), b.State()) {
			t.Errorf("after %v: %v, %v", c, x, y)
		}
	}
}

// sealed puts a checksum behind bytes, as an encoding may have it.
func sealed(b []byte) []byte {
	return binary.LittleEndian.AppendUint32(slices.Clone(b), crc32.ChecksumIEEE(b))
}

// P17.1: a right checksum is not enough.
func TestRightChecksums(t *testing.T) {
	takesOwn(t, sealed(nil))
	for _, s := range states() {
		b := encode(t, s)
		b = b[:len(b)-4]
		for i := 0; i < len(b); i += 1 + len(b)/60 {
			takesOwn(t, sealed(b[:i]))
			for x := range 256 {
				d := slices.Clone(b)
				d[i] = byte(x)
				takesOwn(t, sealed(d))
				takesOwn(t, sealed(slices.Insert(slices.Clone(b), i, byte(x))))
			}
			takesOwn(t, sealed(slices.Delete(slices.Clone(b), i, i+1)))
		}
		takesOwn(t, sealed(append(slices.Clone(b), 0)))
	}
	words := []string{"", "\x00", "\x01", "\x02", "\x03", "\x04", "\x05", "\x06", "\x80", "\x81\x00", "\x80\x01", "\xff\xff\xff\xff\xff\xff\xff\xff\x7f", "\x01\x01"}
	seed := uint64(3)
	for range 20000 {
		var l []string
		seed = seed*6364136223846793005 + 1442695040888963407
		for range seed >> 33 % 19 {
			seed = seed*6364136223846793005 + 1442695040888963407
			l = append(l, words[seed>>33%uint64(len(words))])
		}
		b, _ := wire.Put(l...)
		takesOwn(t, sealed(b))
	}
}

// R2: arguments are neither changed nor kept.
func TestMemory(t *testing.T) {
	want := states()[8]
	b := encode(t, states()[8])
	before := slices.Clone(b)
	s, _ := image.Parse(b)
	if !bytes.Equal(b, before) {
		t.Errorf("the argument changed")
	}
	clear(b)
	if !same(s, want) || !bytes.Equal(encode(t, s), before) {
		t.Errorf("%v", s)
	}
}
