package trace

import (
	"testing"

	"ticketline/api"
)

// others returns things of the thread 1 that belong to no wait, those that end it among them.
func others() []api.Did {
	return list(load(1, 5, 0), load(1, 5, 1), store(1, 5, 1, 2), store(1, 0, 0, 0), cas(1, 5, 1, 1), swap(1, 5, 1, 2), load(1, 4, 0), nothing(1), look(1))
}

// P13.3: what comes next of the thread and has not waited, or without an access, ends a wait; what it has changed itself then does not count, nor what was changed afterwards.
func TestWaitsEnd(t *testing.T) {
	for _, next := range append(others(), end(1), ends(load(1, 5, 1)), ends(store(1, 5, 1, 2))) {
		wantWaits(t, list(wait(1, 5, 0), next), waited(1, 5, 0, -1, -1))
		wantWaits(t, list(wait(1, 5, 0), store(0, 5, 0, 1), next), waited(1, 5, 0, 1, 0))
		wantWaits(t, list(wait(1, 5, 0), next, store(0, 5, 0, 1)), waited(1, 5, 0, -1, -1))
		wantWaits(t, list(wait(1, 5, 0), store(0, 5, 0, 1), next, store(2, 5, 1, 3)), waited(1, 5, 0, 1, 0))
		wantWaits(t, list(wait(1, 5, 0), nothing(0), wait(1, 5, 0), store(0, 5, 0, 1), wait(1, 5, 1), swap(2, 5, 1, 3), next), waited(1, 5, 0, 5, 2))
	}
}

// P13.3: a wait begins with the first thing of a thread, or behind one that belongs to no wait.
func TestWaitsBegin(t *testing.T) {
	for _, before := range others() {
		wantWaits(t, list(before, wait(1, 5, 0)), waited(1, 5, 1, -1, -1))
		wantWaits(t, list(before, wait(1, 5, 0), cas(63, 5, 0, 2)), waited(1, 5, 1, 2, 63))
		wantWaits(t, list(wait(1, 5, 0), before, wait(1, 5, 0)), waited(1, 5, 0, -1, -1), waited(1, 5, 2, -1, -1))
		wantWaits(t, list(wait(1, 5, 0), before, store(0, 5, 0, 1), wait(1, 5, 0)), waited(1, 5, 0, -1, -1), waited(1, 5, 3, -1, -1))
	}
}

// P13.3: waiting at another word ends a wait, and begins one; changes of one's word alone count, from its beginning on.
func TestWaitsAtAnotherWord(t *testing.T) {
	wantWaits(t, list(wait(1, 3, 0), wait(1, 5, 0), wait(1, 3, 0)), waited(1, 3, 0, -1, -1), waited(1, 5, 1, -1, -1), waited(1, 3, 2, -1, -1))
	wantWaits(t, list(wait(1, 3, 0), store(0, 3, 0, 1), store(0, 5, 0, 1), wait(1, 5, 1), store(2, 3, 1, 2), store(2, 5, 1, 2), wait(1, 3, 2), store(0, 5, 2, 3)),
		waited(1, 3, 0, 1, 0), waited(1, 5, 3, 5, 2), waited(1, 3, 6, -1, -1))
	wantWaits(t, list(wait(1, 0, 0), wait(1, 65535, 0), nothing(0), end(0), store(2, 65535, 0, 1), swap(3, 0, 0, 1)), waited(1, 0, 0, -1, -1), waited(1, 65535, 1, 4, 2))
}

// P13.3: the last change counts, of whatever kind, also if it was taken back; what stores the same, and what loads, is none.
func TestWaitsForTheLast(t *testing.T) {
	for _, same := range list(store(9, 5, 0, 0), cas(9, 5, 0, 0), swap(9, 5, 0, 0), load(9, 5, 0), wait(8, 4, 0), nothing(9), look(9), end(9), store(9, 4, 0, 1)) {
		wantWaits(t, list(wait(1, 5, 0), same, load(1, 5, 0)), append([]api.Waited{waited(1, 5, 0, -1, -1)}, waitOf(same, 1)...)...)
		for _, change := range list(store(2, 5, 1, 0), cas(2, 5, 1, 0), swap(2, 5, 1, 0)) {
			wantWaits(t, list(wait(1, 5, 0), swap(3, 5, 0, 1), change, same, load(1, 5, 0)), append([]api.Waited{waited(1, 5, 0, 2, 2)}, waitOf(same, 3)...)...)
		}
	}
	wantWaits(t, list(store(2, 5, 1, 0), wait(1, 5, 0), load(1, 5, 0)), waited(1, 5, 1, -1, -1))
	wantWaits(t, list(store(2, 5, 1, 0), wait(1, 5, 0)), waited(1, 5, 1, -1, -1))
}

// waitOf returns the wait that something with an index is, if it has waited at a word.
func waitOf(d api.Did, at int) []api.Waited {
	if !d.Waits || d.Access.Kind == api.AccessNone {
		return nil
	}
	return []api.Waited{waited(d.Thread, d.Access.Word, at, -1, -1)}
}

// P13.3: what waits without an access is no wait.
func TestNoWaits(t *testing.T) {
	wantWaits(t, nil)
	wantWaits(t, list(look(1), store(0, 0, 0, 1), look(1), end(1)))
	wantWaits(t, append(others(), end(1)))
}

// P13.3: several threads wait at one word, in increasing order of where they begin, whenever they end.
func TestWaitsOfSeveral(t *testing.T) {
	l := list(wait(7, 5, 0), wait(2, 5, 0), wait(63, 4, 0), wait(0, 5, 0), store(1, 5, 0, 1), load(2, 5, 1), store(2, 5, 1, 2), load(0, 5, 2), wait(2, 5, 2), store(0, 4, 0, 9), wait(1, 4, 9), load(7, 5, 2), wait(0, 5, 2), swap(7, 5, 2, 3))
	wantWaits(t, l, waited(7, 5, 0, 6, 2), waited(2, 5, 1, 4, 1), waited(63, 4, 2, 9, 0), waited(0, 5, 3, 6, 2), waited(2, 5, 8, 13, 7), waited(1, 4, 10, -1, -1), waited(0, 5, 12, 13, 7))
	wantCheck(t, words(0, 0, 0, 0, 0, 0), l, -1, 0, 0, 0, 0, 9, 3)
}

// P13.3: all threads wait, and go on in the opposite order, each by what the one before has changed.
func TestWaitsOfAll(t *testing.T) {
	var l []api.Did
	for n := range 64 {
		l = append(l, wait(63-n, 5, 0))
	}
	want := make([]api.Waited, 64)
	for n := range 64 {
		l = append(l, load(n, 5, uint64(n)), store(n, 5, uint64(n), uint64(n+1)))
		want[63-n] = waited(n, 5, 63-n, 63+2*n, n-1)
	}
	want[63].To = -1 // nothing was changed before the thread 0 went on
	wantWaits(t, l, want...)
}
