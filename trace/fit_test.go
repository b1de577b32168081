package trace

import (
	"slices"
	"testing"

	"ticketline/api"
)

// P13.2: each access finds its word as it says, and makes it what it says; what has no access finds nothing.
func TestFits(t *testing.T) {
	wantCheck(t, words(5), nil, -1, 5)
	wantCheck(t, words(5), list(nothing(0), look(1), end(0)), -1, 5)
	wantCheck(t, words(0, 7), list(load(0, 1, 7), wait(1, 1, 7), cas(1, 1, 7, 7)), -1, 0, 7)
	wantCheck(t, words(0, 7), list(store(0, 1, 7, 8), swap(1, 1, 8, 9), cas(2, 1, 9, 1<<63), load(0, 0, 0), store(0, 0, 0, 0)), -1, 0, 1<<63)
	wantCheck(t, words(1<<64-1), list(ends(swap(63, 0, 1<<64-1, 0))), -1, 0)
	wantCheck(t, words(0, 7, 6), list(store(0, 1, 7, 8), store(0, 2, 6, 7), store(1, 1, 8, 7), store(3, 0, 0, 2)), -1, 2, 7, 7)
}

// P13.2: the first thing that does not find its word as it says, of each kind, and whatever comes behind it.
func TestFitsNot(t *testing.T) {
	for _, d := range list(load(0, 1, 3), wait(0, 1, 3), store(0, 1, 3, 7), store(0, 1, 3, 3), cas(0, 1, 3, 7), cas(0, 1, 0, 0), swap(0, 1, 3, 7)) {
		wantCheck(t, words(0, 7), list(d), 0)
		wantCheck(t, words(0, 7), list(nothing(1), load(0, 1, 7), d), 2)
		wantCheck(t, words(0, 7), list(nothing(1), d, d, load(0, 1, 7)), 1)
	}
	wantCheck(t, words(0, 7), list(store(0, 1, 7, 8), load(1, 1, 7)), 1)
	wantCheck(t, words(0, 7), list(load(0, 1, 8), store(0, 1, 7, 8)), 0)
	wantCheck(t, words(0, 7), list(store(0, 0, 0, 1), store(0, 1, 7, 8), store(0, 0, 0, 1)), 2)
}

// P13.2: a word that there is not is not found; without an access none is looked for.
func TestNoSuchWord(t *testing.T) {
	for _, d := range list(load(0, 2, 0), wait(0, 2, 0), store(0, 2, 0, 0), cas(0, 65535, 0, 0), swap(0, 3, 0, 1)) {
		wantCheck(t, words(0, 0), list(nothing(0), d), 1)
	}
	wantCheck(t, words(0, 0, 0), list(load(0, 2, 0), load(0, 3, 0)), 1)
	many := make([]uint64, 65536)
	many[65535] = 4
	at, e := Check(many, list(store(0, 65535, 4, 5), load(0, 65535, 5)))
	after, f := Replay(many, list(store(0, 65535, 4, 5)))
	if at != -1 || e != api.OK || len(after) != 65536 || after[65535] != 5 || f != api.OK {
		t.Error(at, e, len(after), f)
	}
	wantCheck(t, many[:65535], list(store(0, 65535, 4, 5)), 0)
}

// P13.2: the words and the trace are left as they are, and what Replay returns belongs to whom it is returned to.
func TestWordsAreLeft(t *testing.T) {
	before, l := words(1, 2), list(store(0, 0, 1, 5), store(0, 1, 2, 6))
	for range 2 {
		wantCheck(t, before, l, -1, 5, 6)
	}
	wantCheck(t, before, append(list(l...), load(0, 0, 1)), 2)
	after, _ := Replay(before, nil)
	after[0] = 9
	if !slices.Equal(before, words(1, 2)) || !slices.Equal(l, list(store(0, 0, 1, 5), store(0, 1, 2, 6))) {
		t.Error(before, l)
	}
}
