// Package mem is layer 3: see ../../shared/doc/03-mem.md.
package mem

import (
	"slices"

	"stopgate/api"
)

// Mem is a row of words, and what was done to them.
type Mem struct {
	words []uint64
	log   []api.Access
	count [api.MaxThreads]int
	keep  bool
}

// New is so many words, all 0; nil: too many, or none.
func New(n int) *Mem {
	if n < 1 || n > api.MaxWords {
		return nil
	}
	return &Mem{words: make([]uint64, n)}
}

// made tells whether New or Copy made a row: theirs have a word at least.
func (m *Mem) made() bool { return m != nil && len(m.words) > 0 }

// Size is how many words there are.
func (m *Mem) Size() int {
	if !m.made() {
		return 0
	}
	return len(m.words)
}

// has tells whether there is a word at an address.
func (m *Mem) has(addr int) bool { return 0 <= addr && addr < m.Size() }

// Keep lets accesses be noted from now on, or not.
func (m *Mem) Keep(on bool) {
	if m.made() {
		m.keep = on
	}
}

// access makes a word what change makes of what was there, and counts and notes it: all four kinds go this one way, so that none is left out of the counts.
func (m *Mem) access(a api.Access, change func(old uint64) (now uint64, ok bool)) (api.Access, api.Errno) {
	if !m.made() {
		return api.Access{}, api.ENIL
	}
	if !m.has(a.Addr) {
		return api.Access{}, api.EADDR
	}
	a.Old = m.words[a.Addr]
	a.Now, a.Ok = change(a.Old)
	m.words[a.Addr] = a.Now
	if 0 <= a.Thread && a.Thread < len(m.count) {
		m.count[a.Thread]++
	}
	if m.keep {
		m.log = append(m.log, a)
	}
	return a, api.OK
}

// Load reads a word.
func (m *Mem) Load(t, addr int) (uint64, api.Errno) {
	a, e := m.access(api.Access{Thread: t, Kind: api.Load, Addr: addr}, func(old uint64) (uint64, bool) {
		return old, true
	})
	return a.Old, e
}

// Store writes a word.
func (m *Mem) Store(t, addr int, x uint64) api.Errno {
	_, e := m.access(api.Access{Thread: t, Kind: api.Store, Addr: addr}, func(uint64) (uint64, bool) {
		return x, true
	})
	return e
}

// Swap writes a word, if what is there is what was wanted; whether it was.
func (m *Mem) Swap(t, addr int, want, x uint64) (bool, api.Errno) {
	a, e := m.access(api.Access{Thread: t, Kind: api.Swap, Addr: addr, Want: want}, func(old uint64) (uint64, bool) {
		if old != want {
			return old, false
		}
		return x, true
	})
	return a.Ok, e
}

// Add adds to a word; what was there.
func (m *Mem) Add(t, addr int, by uint64) (uint64, api.Errno) {
	a, e := m.access(api.Access{Thread: t, Kind: api.Add, Addr: addr}, func(old uint64) (uint64, bool) {
		return old + by, true
	})
	return a.Old, e
}

// Peek is a word, without an access; 0 of none.
func (m *Mem) Peek(addr int) uint64 {
	if !m.has(addr) {
		return 0
	}
	return m.words[addr]
}

// Poke sets words from an address on, without an access.
func (m *Mem) Poke(addr int, l ...uint64) api.Errno {
	if !m.made() {
		return api.ENIL
	}
	// What is left behind addr is held against l, as addr and a length may go round in a sum.
	if addr < 0 || addr > len(m.words) || len(l) > len(m.words)-addr {
		return api.EADDR
	}
	copy(m.words[addr:], l)
	return api.OK
}

// All is all words.
func (m *Mem) All() []uint64 {
	if !m.made() {
		return nil
	}
	return slices.Clone(m.words)
}

// Log is the accesses that were noted.
func (m *Mem) Log() []api.Access {
	if !m.made() {
		return nil
	}
	return slices.Clone(m.log)
}

// Count is how many accesses a thread did.
func (m *Mem) Count(t int) int {
	if !m.made() || t < 0 || t >= len(m.count) {
		return 0
	}
	return m.count[t]
}

// Copy is a row of its own with the same words, notes and counts.
func (m *Mem) Copy() *Mem {
	if !m.made() {
		return nil
	}
	return &Mem{words: slices.Clone(m.words), log: slices.Clone(m.log), count: m.count, keep: m.keep}
}
