package trace

import (
	"slices"

	"ticketline/api"
)

// Check returns the index of the first thing that cannot have been done on an arena with some words, -1 if there is none, or an error.
func Check(words []uint64, l []api.Did) (int, api.Errno) {
	if e := wrongFor(words, l); e != api.OK {
		return 0, e
	}
	return redo(slices.Clone(words), l), api.OK
}

// Replay returns the words after a trace, or an error.
func Replay(words []uint64, l []api.Did) ([]uint64, api.Errno) {
	if e := wrongFor(words, l); e != api.OK {
		return nil, e
	}
	after := slices.Clone(words)
	if redo(after, l) >= 0 {
		return nil, api.ErrCheck
	}
	return after, api.OK
}

// wrongFor returns why things that were done are no trace, or words not those of an arena.
func wrongFor(words []uint64, l []api.Did) api.Errno {
	if e := wrong(l); e != api.OK {
		return e
	}
	if len(words) < 1 || len(words) > api.MaxWords {
		return api.ErrArg
	}
	return api.OK
}

// redo makes the accesses of a trace on some words, up to the first that does not find its word as it says, and returns the index of this, -1 if there is none.
func redo(words []uint64, l []api.Did) int {
	for i, d := range l {
		a := d.Access
		if a.Kind == api.AccessNone {
			continue
		}
		if a.Word >= len(words) || words[a.Word] != a.Before {
			return i
		}
		words[a.Word] = a.After
	}
	return -1
}
