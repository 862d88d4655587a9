package node

import (
	"lectern/api"
	"lectern/disk"
	"lectern/snap"
	"lectern/wal"
)

// stores are what a node keeps on its disk.
type stores struct {
	*wal.Wal
	*snap.Store
}

func openStores(d *disk.Disk) (stores, api.Errno) {
	w, e := wal.Open(d)
	if e != api.OK {
		return stores{}, e
	}
	s, e := snap.Open(d)
	if e != api.OK {
		return stores{}, e
	}
	return stores{w, s}, api.OK
}

// keep makes a state durable; what is kept so far is the old one. The vote comes first, for no entry may be of a later term; the snapshot comes ahead of the log that begins with it.
func (s stores) keep(old, next api.Raft) api.Errno {
	if next.Term != old.Term || next.Vote != old.Vote {
		if e := s.SetVote(next.Term, next.Vote); e != api.OK {
			return e
		}
	}
	if next.Log.Base != old.Log.Base {
		if e := s.SetSnapshot(next.Log.Base, next.Log.BaseTerm, next.Snap); e != api.OK {
			return e
		}
	}
	return s.keepLog(old.Log, next.Log)
}

// has reports whether a log has an entry with this index and term.
func has(l api.Log, index, term int) bool {
	i := index - l.Base - 1
	return i >= 0 && i < len(l.Entries) && l.Entries[i].Term == term
}

// behind returns the log whose base is moved up: the entries above it stay, if the one there has the base's term.
func behind(l api.Log, base, term int) api.Log {
	out := api.Log{Base: base, BaseTerm: term}
	if has(l, base, term) {
		out.Entries = l.Entries[base-l.Base:]
	}
	return out
}

// keepLog makes the log on the disk, which is the old one, the next one.
func (s stores) keepLog(old, next api.Log) api.Errno {
	changed := false
	if next.Base != old.Base {
		if e := s.moveBase(old, next); e != api.OK {
			return e
		}
		old, changed = behind(old, next.Base, next.BaseTerm), true
	}
	same := 0
	for same < len(next.Entries) && has(old, next.Entries[same].Index, next.Entries[same].Term) {
		same++
	}
	if same < len(old.Entries) {
		changed = true
		if e := s.Cut(next.Base + same); e != api.OK {
			return e
		}
	}
	if same < len(next.Entries) {
		changed = true
		if e := s.Append(next.Entries[same:]); e != api.OK {
			return e
		}
	}
	if !changed {
		return api.OK
	}
	return s.Sync()
}

func (s stores) moveBase(old, next api.Log) api.Errno {
	if !has(old, next.Base, next.BaseTerm) {
		// What is there contradicts the snapshot, or ends ahead of it.
		if e := s.Cut(old.Base); e != api.OK {
			return e
		}
	}
	return s.Drop(next.Base, next.BaseTerm)
}
