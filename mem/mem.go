// Package mem: words, accesses (layer 1).
package mem

import (
	"slices"

	"ticketline/api"
)

// Mem is an arena of words.
type Mem struct{ words []uint64 }

// New returns an arena of so many words, or an error.
func New(words int) (*Mem, api.Errno) {
	if words < 1 || words > api.MaxWords {
		return nil, api.ErrArg
	}
	return &Mem{words: make([]uint64, words)}, api.OK
}

// Load returns a word, or an error.
func (m *Mem) Load(w int) (uint64, api.Errno) {
	did, e := m.Do(load(w))
	return did.Before, e
}

// Store makes a word another value, or returns an error.
func (m *Mem) Store(w int, v uint64) api.Errno {
	_, e := m.Do(store(w, v))
	return e
}

// CAS makes a word a new value if it is the old one, and reports whether it was; or it returns an error.
func (m *Mem) CAS(w int, old, new uint64) (bool, api.Errno) {
	did, e := m.Do(compareAndSwap(w, old, new))
	return e == api.OK && did.Before == old, e
}

// Swap makes a word another value, and returns what it was before, or an error.
func (m *Mem) Swap(w int, v uint64) (uint64, api.Errno) {
	did, e := m.Do(swap(w, v))
	return did.Before, e
}

// Do makes an access, of which Before need not be right for AccessLoad, AccessStore and AccessSwap, and returns what it was, or an error.
func (m *Mem) Do(a api.Access) (api.Access, api.Errno) {
	if m.none() {
		return api.Access{}, api.ErrNil
	}
	if a.Kind < api.AccessLoad || a.Kind > api.AccessSwap {
		return api.Access{}, api.ErrArg
	}
	if a.Word < 0 || a.Word >= len(m.words) {
		return api.Access{}, api.ErrRange
	}
	before := m.words[a.Word]
	after := afterwards(a, before)
	m.words[a.Word] = after
	return api.Access{Kind: a.Kind, Word: a.Word, Before: before, After: after}, api.OK
}

// afterwards returns what an access makes of a word that is before.
func afterwards(a api.Access, before uint64) uint64 {
	switch a.Kind {
	case api.AccessStore, api.AccessSwap:
		return a.After
	case api.AccessCAS:
		if before == a.Before {
			return a.After
		}
	}
	return before
}

// Len returns how many words there are.
func (m *Mem) Len() int {
	if m.none() {
		return 0
	}
	return len(m.words)
}

// Words returns the words from a number up to another one, without this one, or an error.
func (m *Mem) Words(from, to int) ([]uint64, api.Errno) {
	if m.none() {
		return nil, api.ErrNil
	}
	if from < 0 || from > to || to > len(m.words) {
		return nil, api.ErrRange
	}
	return slices.Clone(m.words[from:to]), api.OK
}

// Copy returns an independent copy.
func (m *Mem) Copy() *Mem {
	if m.none() {
		return nil
	}
	return &Mem{words: slices.Clone(m.words)}
}

// Same reports whether two arenas are equal.
func (m *Mem) Same(o *Mem) bool {
	return !m.none() && !o.none() && slices.Equal(m.words, o.words)
}

// none reports whether an arena is nil or zero: New makes none without words.
func (m *Mem) none() bool { return m == nil || len(m.words) == 0 }
