// Package ref is layer 1: see ../../shared/doc/01-ref.md.
package ref

import (
	"stopgate/api"
)

// A word holds a name's index, and one, below its tag: so no name's word is 0, which names nothing.
const (
	tagAt    = 16
	lowest   = 1<<tagAt - 1
	maxIndex = lowest - 1
)

// Good tells whether a name may be.
func Good(r api.Ref) bool {
	return 0 <= r.Index && r.Index <= maxIndex && 1 <= r.Tag && r.Tag <= api.MaxTags
}

// Word is a name as a word; 0 of one that may not be.
func Word(r api.Ref) uint64 {
	if !Good(r) {
		return 0
	}
	return uint64(r.Tag)<<tagAt + uint64(r.Index) + 1
}

// Read is the name of a word; false: there is none.
func Read(w uint64) (api.Ref, bool) {
	r := api.Ref{Index: int(w&lowest) - 1, Tag: int(w >> tagAt)}
	if !Good(r) {
		return api.Ref{}, false
	}
	return r, true
}

// Next is a node's next name, with tags up to a last one; false: there is none any more.
func Next(s api.Slot, last int) (api.Ref, bool) {
	r := api.Ref{Index: s.Index, Tag: s.Tag + 1}
	// A tag below last is not the greatest int: so one more does not go round.
	if s.Tag >= last || !Good(r) {
		return api.Ref{}, false
	}
	return r, true
}

// Slot is the node that a name has.
func Slot(r api.Ref) api.Slot { return api.Slot{Index: r.Index, Tag: r.Tag} }

// Less tells whether a name stands ahead of another one: by index, then by tag.
func Less(a, b api.Ref) bool {
	if a.Index != b.Index {
		return a.Index < b.Index
	}
	return a.Tag < b.Tag
}

// Handle is a channel's handle: its place, and its generation; 0 of what may not be.
func Handle(place, gen int) int {
	if place < 0 || place >= api.MaxChans || gen < 1 || gen > api.MaxGens {
		return 0
	}
	return gen*api.MaxChans + place
}

// Place is a handle's place, and its generation; false: it is none.
func Place(h int) (place, gen int, ok bool) {
	place, gen = h%api.MaxChans, h/api.MaxChans
	// A handle below that of the first generation, or a negative one, has no generation of 1 or more.
	if gen < 1 || gen > api.MaxGens {
		return 0, 0, false
	}
	return place, gen, true
}
