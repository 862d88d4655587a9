package command_test

import (
	"bytes"
	"slices"
	"strings"
	"testing"

	"lectern/api"
	"lectern/command"
)

const end = 1 << 40

var long = strings.Repeat("x", api.MaxEntry/2-1)

var commands = []api.Command{
	{Kind: api.CmdOpen},
	{Kind: api.CmdAdd, Client: 1, Seq: 1},
	{Kind: api.CmdAdd, Client: 1, Seq: 128},
	{Kind: api.CmdAdd, Client: 128, Seq: 1},
	{Kind: api.CmdAdd, Client: 1, Seq: 1, ID: "a"},
	{Kind: api.CmdAdd, Client: 1, Seq: 1, Text: "a"},
	{Kind: api.CmdAdd, Client: 1, Seq: 1, ID: "ab"},
	{Kind: api.CmdAdd, Client: 1, Seq: 1, ID: "a", Text: "b"},
	{Kind: api.CmdAdd, Client: end - 1, Seq: end - 1, ID: "a", Text: long},
	{Kind: api.CmdAdd, Client: 1, Seq: 1, ID: long + "x"},
	{Kind: api.CmdAdd, Client: 1, Seq: 1, ID: "\x00\xff", Text: "\x80\x00"},
	{Kind: api.CmdDelete, Client: 1, Seq: 1},
	{Kind: api.CmdDelete, Client: end - 1, Seq: end - 1, ID: long + "x"},
	{Kind: api.CmdDelete, Client: 1, Seq: 1, ID: "a"},
	{Kind: api.CmdClose, Client: 1, Seq: 1},
	{Kind: api.CmdClose, Client: end - 1, Seq: end - 1},
}

func encode(t *testing.T, c api.Command) []byte {
	t.Helper()
	b, e := command.Bytes(c)
	if e != api.OK || len(b) == 0 || len(b) > api.MaxEntry {
		t.Fatalf("Bytes of %.60v: %d bytes, %v", c, len(b), e)
	}
	return b
}

// P16.1, P16.2: a command and back, in at most MaxEntry bytes.
func TestThereAndBack(t *testing.T) {
	for _, c := range commands {
		b := encode(t, c)
		if got, e := command.Parse(b); got != c || e != api.OK {
			t.Errorf("Parse: %.60v, %v, not %.60v", got, e, c)
		}
		if !bytes.Equal(b, encode(t, c)) {
			t.Errorf("two encodings of %.60v", c)
		}
	}
}

// P16.1: no encoding is the beginning of another one.
func TestPrefixes(t *testing.T) {
	for i, c := range commands {
		for j, other := range commands {
			if i != j && bytes.HasPrefix(encode(t, c), encode(t, other)) {
				t.Errorf("%.60v begins with %.60v", c, other)
			}
		}
	}
}

// P16.1: what is no command.
func TestBytesErrors(t *testing.T) {
	for _, c := range []api.Command{
		{},
		{Kind: 5, Client: 1, Seq: 1},
		{Kind: -1, Client: 1, Seq: 1},
		{Kind: api.AskSearch, Text: "x"},
		{Kind: api.CmdOpen, Client: 1},
		{Kind: api.CmdOpen, ID: "a"},
		{Kind: api.CmdAdd, Client: 0, Seq: 1},
		{Kind: api.CmdAdd, Client: 1, Seq: end},
		{Kind: api.CmdAdd, Client: 1, Seq: -1},
		{Kind: api.CmdAdd, Client: 1, Seq: 1, ID: "ab", Text: long},
		{Kind: api.CmdDelete, Client: 1, Seq: 1, ID: "a", Text: "b"},
		{Kind: api.CmdClose, Client: 1, Seq: 1, ID: "a"},
	} {
		if b, e := command.Bytes(c); len(b) != 0 || e != api.ErrForm {
			t.Errorf("Bytes of %.60v: %x, %v", c, b, e)
		}
	}
}

// takesOwn checks that bytes are refused, or are the encoding of what they are taken for.
func takesOwn(t *testing.T, b []byte) bool {
	t.Helper()
	c, e := command.Parse(b)
	if e == api.OK {
		if again, e := command.Bytes(c); e != api.OK || !bytes.Equal(again, b) {
			t.Errorf("Parse(%x): not its encoding", b)
		}
		return true
	}
	if e != api.ErrForm || c != (api.Command{}) {
		t.Errorf("Parse(%x): %v, %v", b, c, e)
	}
	return false
}

// P16.1: Parse takes encodings and nothing else.
func TestParseErrors(t *testing.T) {
	takesOwn(t, nil)
	for x := range 1 << 16 {
		takesOwn(t, []byte{byte(x), byte(x >> 8)})
	}
	for _, c := range commands {
		b := encode(t, c)
		for i := 0; i < len(b); i += 1 + len(b)/100 {
			if takesOwn(t, b[:i]) {
				t.Errorf("%d bytes of %.60v are taken", i, c)
			}
			for x := range 256 {
				d := slices.Clone(b)
				d[i] = byte(x)
				takesOwn(t, d)
				takesOwn(t, slices.Insert(slices.Clone(b), i, byte(x)))
			}
			takesOwn(t, slices.Delete(slices.Clone(b), i, i+1))
		}
		if takesOwn(t, append(slices.Clone(b), 0)) || takesOwn(t, append(slices.Clone(b), b...)) || takesOwn(t, b[:len(b)-1]) {
			t.Errorf("more or less than %.60v is taken", c)
		}
	}
}

// R2: the argument is not changed, results are new.
func TestMemory(t *testing.T) {
	b := encode(t, commands[7])
	before := slices.Clone(b)
	c, _ := command.Parse(b)
	if !bytes.Equal(b, before) {
		t.Errorf("the argument changed")
	}
	clear(b)
	if c != commands[7] || !bytes.Equal(encode(t, c), before) {
		t.Errorf("%v", c)
	}
}
