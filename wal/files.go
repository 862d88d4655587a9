package wal

import (
	"slices"
	"strconv"
	"strings"

	"lectern/api"
	"lectern/disk"
)

const (
	prefix  = "wal-"
	newPart = "wal.new" // the first part of a generation that does not stand yet
	spare   = 1 << 16   // bytes that a generation may have beyond twice what its log needs
)

// files are those of a log. Their records, from the first on, make the log of an empty one. A generation of files has one part or several. It stands as soon as its first part has its name, and only to the last part is anything added; when that is full, or there are many records of entries that are gone, the log is written into a new generation.
type files struct {
	*disk.Disk
	generation int
	last       int // the number of the last part, -1: there is none yet
	size       int // bytes of the last part
	total      int // bytes of all parts
	sum        uint32
}

// place is a part's.
type place struct {
	generation, part int
}

func (p place) name() string {
	return prefix + strconv.Itoa(p.generation) + "-" + strconv.Itoa(p.part)
}

// placeOf is the inverse of name.
func placeOf(name string) (place, bool) {
	rest, ok := strings.CutPrefix(name, prefix)
	if !ok {
		return place{}, false
	}
	a, b, _ := strings.Cut(rest, "-")
	generation, bad := strconv.Atoi(a)
	part, worse := strconv.Atoi(b)
	p := place{generation, part}
	return p, bad == nil && worse == nil && p.name() == name
}

func newFiles(d *disk.Disk, generation int) files {
	return files{Disk: d, generation: generation, last: -1, sum: uint32(generation)}
}

func (f *files) partName(part int) string {
	return place{f.generation, part}.name()
}

// read finds the generation that stands, removes all other files, and hands the records to apply until that or a frame fails.
func (f *files) read(apply func(r record) bool) api.Errno {
	names, e := f.List()
	if e != api.OK {
		return e
	}
	*f = newFiles(f.Disk, standing(names))
	for slices.Contains(names, f.partName(f.last+1)) {
		b, e := f.Read(f.partName(f.last + 1))
		if e != api.OK {
			return e
		}
		f.last++
		f.size = f.replay(b, apply)
		f.total += f.size
		if f.size < len(b) {
			return f.repair(names)
		}
	}
	return f.removeOthers(names)
}

// standing returns the latest generation whose first part is there.
func standing(names []string) int {
	latest := 0
	for _, name := range names {
		if p, ok := placeOf(name); ok && p.part == 0 {
			latest = max(latest, p.generation)
		}
	}
	return latest
}

// replay hands the records of a part on, and returns the size of what is whole, up to the last final one.
func (f *files) replay(b []byte, apply func(r record) bool) int {
	at, whole, s := 0, 0, f.sum
	for {
		r, size, next, ok := parse(b[at:], s)
		if !ok || !apply(r) {
			return whole
		}
		at, s = at+size, next
		if r.final {
			whole, f.sum = at, s
		}
	}
}

// repair cuts off what a crash left behind the last whole record. It is durable before anything is added there: else a later crash could bring parts of it back.
func (f *files) repair(names []string) api.Errno {
	if e := f.removeOthers(names); e != api.OK {
		return e
	}
	if e := f.Cut(f.partName(f.last), f.size); e != api.OK {
		return e
	}
	return f.Sync(f.partName(f.last))
}

// removeOthers removes the files of a log that are no parts of this generation.
func (f *files) removeOthers(names []string) api.Errno {
	for _, name := range names {
		p, ok := placeOf(name)
		ours := ok && p.generation == f.generation && p.part >= 0 && p.part <= f.last
		if ours || !ok && name != newPart {
			continue
		}
		if e := f.Remove(name); e != api.OK {
			return e
		}
	}
	return api.OK
}

// write adds the records of one call, after which the log is this one.
func (f *files) write(records []record, log api.Log) api.Errno {
	b, s := frames(records, f.sum)
	if f.size+len(b) > api.MaxFile || f.total+len(b) > 2*logSize(log)+spare {
		return f.renew(log)
	}
	f.last = max(f.last, 0)
	f.size, f.total, f.sum = f.size+len(b), f.total+len(b), s
	return f.Append(f.partName(f.last), b)
}

// frames returns the frames of the records of one call.
func frames(records []record, s uint32) ([]byte, uint32) {
	var b []byte
	for i, r := range records {
		r.final = i == len(records)-1
		frame, next := r.frame(s)
		b, s = append(b, frame...), next
	}
	return b, s
}

func logSize(log api.Log) int {
	size := frameSize(0)
	for _, e := range log.Entries {
		size += frameSize(len(e.Data))
	}
	return size
}

// renew writes the log into a new generation, and removes the one before.
func (f *files) renew(log api.Log) api.Errno {
	next := newFiles(f.Disk, f.generation+1)
	for _, b := range next.fill(log) {
		if e := next.addPart(b); e != api.OK {
			return e
		}
	}
	if e := next.Rename(newPart, next.partName(0)); e != api.OK {
		return e
	}
	for part := range f.last + 1 {
		if e := f.Remove(f.partName(part)); e != api.OK {
			return e
		}
	}
	*f = next
	return api.OK
}

// fill returns the contents of the parts of a log.
func (f *files) fill(log api.Log) [][]byte {
	records := logRecords(log)
	parts := [][]byte{nil}
	for _, r := range records {
		b, s := frames([]record{r}, f.sum)
		k := len(parts) - 1
		if len(parts[k])+len(b) > api.MaxFile {
			parts = append(parts, nil)
			k++
		}
		parts[k] = append(parts[k], b...)
		f.sum = s
	}
	return parts
}

// addPart writes a part and makes it durable. The first one waits for its name.
func (f *files) addPart(b []byte) api.Errno {
	f.last++
	f.size = len(b)
	f.total += len(b)
	name := f.partName(f.last)
	if f.last == 0 {
		name = newPart
	}
	if e := f.Append(name, b); e != api.OK {
		return e
	}
	return f.Sync(name)
}

// sync makes all durable; the parts ahead of the last one are.
func (f *files) sync() api.Errno {
	if f.last < 0 {
		return f.probe()
	}
	return f.Sync(f.partName(f.last))
}

// probe tells whether there is power.
func (f *files) probe() api.Errno {
	_, e := f.List()
	return e
}
