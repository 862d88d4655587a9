package segcode_test

import (
	"bytes"
	"encoding/binary"
	"hash/crc32"
	"slices"
	"strings"
	"testing"

	"lectern/api"
	"lectern/segcode"
	"lectern/segment"
	"lectern/wire"
)

func build(t *testing.T, d []api.Doc) *segment.Segment {
	t.Helper()
	s, e := segment.New(d...)
	if e != api.OK {
		t.Fatalf("segment.New: %v", e)
	}
	return s
}

func encode(t *testing.T, d []api.Doc) []byte {
	t.Helper()
	b, e := segcode.Encode(build(t, d))
	if e != api.OK || len(b) == 0 {
		t.Fatalf("Encode: %d bytes, %v", len(b), e)
	}
	return b
}

// greatest is a list of documents at all limits at once.
func greatest() []api.Doc {
	d := make([]api.Doc, api.MaxDocs)
	for i := range d {
		d[i] = api.Doc{ID: strings.Repeat("n", api.MaxName-1) + string(rune('!'+i)), Text: strings.Repeat("ab", api.MaxTotal/api.MaxDocs/2)}
	}
	return d
}

var lists = [][]api.Doc{
	nil,
	{{ID: "a"}},
	{{ID: "a", Text: "b"}},
	{{ID: "ab"}},
	{{ID: "a"}, {ID: "b"}},
	{{ID: "a", Text: "xx"}, {ID: "b", Text: "x"}},
	{{ID: "\x00", Text: "\x00\x00"}, {ID: "\x00\x00", Text: "\xff"}},
	{{ID: "a", Text: strings.Repeat("long ", 400)}},
}

// P11.1, P11.2: a segment and back.
func TestThereAndBack(t *testing.T) {
	for _, d := range append(lists, greatest()) {
		b := encode(t, d)
		s, e := segcode.Decode(b)
		if e != api.OK || !slices.Equal(s.Docs(), d) {
			t.Fatalf("Decode: %v", e)
		}
		again, e := segcode.Encode(s)
		if e != api.OK || !bytes.Equal(again, b) {
			t.Errorf("Encode of what was decoded: %v", e)
		}
		for _, p := range []string{"x", "ab", "\x00"} {
			want, _ := build(t, d).Search(p)
			if got, e := s.Search(p); e != api.OK || !slices.Equal(got, want) {
				t.Errorf("Search(%q): %v, %v, not %v", p, got, e, want)
			}
		}
	}
}

// P11.1: equal documents have equal encodings; none is the beginning of another one.
func TestPrefixes(t *testing.T) {
	for i, d := range lists {
		if !bytes.Equal(encode(t, d), encode(t, slices.Clone(d))) {
			t.Errorf("two encodings of %v", d)
		}
		for j, other := range lists {
			if i != j && bytes.HasPrefix(encode(t, d), encode(t, other)) {
				t.Errorf("%v begins with %v", d, other)
			}
		}
	}
}

func refuses(t *testing.T, b []byte) {
	t.Helper()
	if s, e := segcode.Decode(b); s != nil || e != api.ErrForm {
		t.Errorf("Decode of %d bytes: %v, %v", len(b), s, e)
	}
}

// P11.1: what is no encoding.
func TestErrors(t *testing.T) {
	if b, e := segcode.Encode(nil); len(b) != 0 || e != api.ErrForm {
		t.Errorf("Encode(nil): %x, %v", b, e)
	}
	refuses(t, nil)
	for _, d := range lists {
		b := encode(t, d)
		for i := 0; i < len(b); i += 1 + len(b)/200 {
			refuses(t, b[:i])
			for bit := range 8 {
				b[i] ^= 1 << bit
				refuses(t, b)
				b[i] ^= 1 << bit
			}
		}
		refuses(t, append(slices.Clone(b), 0))
		refuses(t, append(slices.Clone(b), b...))
		refuses(t, append([]byte{0}, b...))
	}
	for x := range 1 << 16 {
		b := []byte{byte(x), byte(x >> 8)}
		if s, e := segcode.Decode(b); e != api.OK && (s != nil || e != api.ErrForm) {
			t.Errorf("Decode(%x): %v, %v", b, s, e)
		} else if e == api.OK {
			if again, _ := segcode.Encode(s); !bytes.Equal(again, b) {
				t.Errorf("Decode(%x): not its encoding", b)
			}
		}
	}
}

// takesOwn checks that bytes are refused, or are the encoding of what they are taken for.
func takesOwn(t *testing.T, b []byte) {
	t.Helper()
	s, e := segcode.Decode(b)
	if e == api.OK {
		if again, e := segcode.Encode(s); e != api.OK || !bytes.Equal(again, b) {
			t.Errorf("Decode(%x): not its encoding", b)
		}
		return
	}
	if s != nil || e != api.ErrForm {
		t.Errorf("Decode(%x): %v, %v", b, s, e)
	}
}

// sealed puts a checksum behind bytes, as an encoding may have it.
func sealed(b []byte) []byte {
	return binary.LittleEndian.AppendUint32(slices.Clone(b), crc32.ChecksumIEEE(b))
}

// P11.1: a right checksum is not enough.
func TestRightChecksums(t *testing.T) {
	takesOwn(t, sealed(nil))
	for _, d := range lists[:7] {
		b := encode(t, d)
		b = b[:len(b)-4]
		for i := 0; i < len(b); i += 1 + len(b)/60 {
			takesOwn(t, sealed(b[:i]))
			for x := range 256 {
				d := slices.Clone(b)
				d[i] = byte(x)
				takesOwn(t, sealed(d))
				takesOwn(t, sealed(slices.Insert(slices.Clone(b), i, byte(x))))
			}
			takesOwn(t, sealed(slices.Delete(slices.Clone(b), i, i+1)))
		}
		takesOwn(t, sealed(append(slices.Clone(b), 0)))
	}
	words := []string{"", "\x00", "\x01", "\x02", "\x03", "\x04", "\x05", "\x06", "\x80", "\x81\x00", "\x80\x01", "\xff\xff\xff\xff\xff\xff\xff\xff\x7f", "\x01\x01"}
	seed := uint64(3)
	for range 20000 {
		var l []string
		seed = seed*6364136223846793005 + 1442695040888963407
		for range seed >> 33 % 19 {
			seed = seed*6364136223846793005 + 1442695040888963407
			l = append(l, words[seed>>33%uint64(len(words))])
		}
		b, _ := wire.Put(l...)
		takesOwn(t, sealed(b))
	}
}

// R2: the argument is neither changed nor kept.
func TestMemory(t *testing.T) {
	d := lists[5]
	b := encode(t, d)
	before := bytes.Clone(b)
	s, _ := segcode.Decode(b)
	if !bytes.Equal(b, before) {
		t.Errorf("the argument changed")
	}
	clear(b)
	if !slices.Equal(s.Docs(), d) {
		t.Errorf("%v", s.Docs())
	}
}
