package wal

import (
	"lectern/api"
	"lectern/sum"
)

// A frame is a record as whole sectors of the disk. The first byte of each sector is a mark that is not 0. What a crash leaves of an append is whole sectors of it and then zeros, so a torn frame is known by its marks, whatever its checksum says.
const (
	markMore  = 1
	markLast  = 2 // the frame ends with this sector
	room      = api.Sector - 1
	sumBytes  = 4
	kindAt    = sumBytes
	indexAt   = kindAt + 1
	termAt    = indexAt + 8
	sizeAt    = termAt + 8
	dataAt    = sizeAt + 2
	finalFlag = 8
)

// Kinds of records.
const (
	recEntry = iota + 1
	recCut
	recDrop
)

// record is a change of a log: an entry more, a cut, a drop. The last record of a call is final: without it the others of the call have no effect.
type record struct {
	kind  int
	index int
	term  int
	data  string
	final bool
}

// frameSize is the number of bytes of the frame of a record with so much data.
func frameSize(data int) int {
	return (dataAt + data + room - 1) / room * api.Sector
}

func putNumber(b []byte, n int) {
	for i := range b {
		b[i] = byte(n >> (8 * i))
	}
}

func number(b []byte) int {
	n := 0
	for i, x := range b {
		n |= int(x) << (8 * i)
	}
	return n
}

// frame returns the frame of a record, and its checksum, which goes on from that of the frame ahead.
func (r record) frame(ahead uint32) ([]byte, uint32) {
	b := make([]byte, dataAt, dataAt+len(r.data))
	kind := r.kind
	if r.final {
		kind |= finalFlag
	}
	putNumber(b[kindAt:indexAt], kind)
	putNumber(b[indexAt:termAt], r.index)
	putNumber(b[termAt:sizeAt], r.term)
	putNumber(b[sizeAt:dataAt], len(r.data))
	b = append(b, r.data...)
	s := sum.Sum(ahead, b[sumBytes:]...)
	putNumber(b[:sumBytes], int(s))
	return inSectors(b), s
}

func inSectors(b []byte) []byte {
	var out []byte
	for len(b) > 0 {
		var sector [api.Sector]byte
		sector[0] = markMore
		n := copy(sector[1:], b)
		b = b[n:]
		if len(b) == 0 {
			sector[0] = markLast
		}
		out = append(out, sector[:]...)
	}
	return out
}

// fromSectors returns what the first frame of b holds, padded, and the frame's size; or false if there is no whole one.
func fromSectors(b []byte) (body []byte, size int, ok bool) {
	for len(b) >= size+api.Sector {
		sector := b[size : size+api.Sector]
		if sector[0] != markMore && sector[0] != markLast {
			return nil, 0, false
		}
		body = append(body, sector[1:]...)
		size += api.Sector
		if sector[0] == markLast {
			return body, size, true
		}
	}
	return nil, 0, false
}

// parse returns the record of the first frame of b, the frame's size and checksum; or false if no frame stands there behind one with this checksum.
func parse(b []byte, ahead uint32) (r record, size int, s uint32, ok bool) {
	body, size, ok := fromSectors(b)
	if !ok {
		return record{}, 0, 0, false
	}
	end := dataAt + number(body[sizeAt:dataAt])
	if end > len(body) || frameSize(end-dataAt) != size {
		return record{}, 0, 0, false
	}
	s = sum.Sum(ahead, body[sumBytes:end]...)
	if number(body[:sumBytes]) != int(s) {
		return record{}, 0, 0, false
	}
	kind := number(body[kindAt:indexAt])
	r = record{
		kind:  kind &^ finalFlag,
		index: number(body[indexAt:termAt]),
		term:  number(body[termAt:sizeAt]),
		data:  string(body[dataAt:end]),
		final: kind&finalFlag != 0,
	}
	return r, size, s, true
}
