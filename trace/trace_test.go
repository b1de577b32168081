package trace

import (
	"slices"
	"testing"

	"ticketline/api"
)

// P13.1 to P13.3: the chapter's examples.
func TestExamples(t *testing.T) {
	a, b, c := exampleA(), exampleB(), exampleC()
	wantWaits(t, list(b, b, a, c), waited(1, 5, 0, 2, 0))
	wantWaits(t, list(b, b), waited(1, 5, 0, -1, -1))
	wantWaits(t, list(a, c))
	wantWaits(t, list(b, c), waited(1, 5, 0, -1, -1))
	wantCheck(t, sixWords(0), list(b, a, c), -1, 0, 0, 0, 0, 0, 1)
	wantCheck(t, sixWords(0), list(c), 0)
	wantCheck(t, words(0, 0, 0, 0, 0), list(a), 0)
	wantCheck(t, sixWords(0), list(a), -1, 0, 0, 0, 0, 0, 1)
	wantCheck(t, sixWords(1), list(a), 0)
	if l, e := Changes(list(b, a, c, a), 5); !slices.Equal(l, []int{1, 3}) || e != api.OK {
		t.Error(l, e)
	}
	if l, e := Changes(list(a), 6); len(l) > 0 || e != api.OK {
		t.Error(l, e)
	}
	if l, e := Of(list(b, a, c), 1); !slices.Equal(l, list(b, c)) || e != api.OK {
		t.Error(l, e)
	}
	if Valid(list(did(0, api.AccessLoad, 5, 0, 1))) || Valid(list(end(1), b)) {
		t.Error("valid")
	}
}

// P13.1: which things a trace may have, one for itself.
func TestValidThing(t *testing.T) {
	for _, d := range list(
		nothing(0), nothing(63), look(0), look(63), end(5), load(0, 0, 0), load(63, 65535, 1<<63),
		wait(0, 0, 7), wait(63, 65535, 1<<64-1), store(3, 4, 5, 6), store(3, 4, 5, 5), store(0, 65535, 0, 0),
		cas(3, 4, 5, 6), cas(3, 4, 5, 5), swap(3, 4, 5, 6), swap(3, 4, 5, 5), swap(3, 65535, 5, 6),
		ends(load(1, 2, 3)), ends(store(1, 2, 3, 4)), ends(cas(1, 2, 3, 3)), ends(swap(1, 0, 3, 4)),
	) {
		if !Valid(list(d)) {
			t.Error("not valid:", d)
		}
	}
	no := list(
		did(0, api.AccessNone, 1, 0, 0), did(0, api.AccessNone, -1, 0, 0), did(0, api.AccessNone, 0, 1, 0), did(0, api.AccessNone, 0, 0, 1), did(0, api.AccessNone, 0, 1, 1),
		did(0, api.AccessLoad, 0, 1, 0), did(0, api.AccessLoad, 0, 0, 1), waits(did(0, api.AccessLoad, 0, 0, 1)),
		did(0, -1, 0, 0, 0), did(0, 5, 0, 0, 0), did(0, 6, 1, 2, 3), did(0, 1<<32+1, 1, 2, 2), did(0, -1<<62, 0, 0, 0),
		waits(store(0, 1, 2, 2)), waits(store(0, 1, 2, 3)), waits(cas(0, 1, 2, 2)), waits(swap(0, 1, 2, 2)), waits(did(0, -1, 0, 0, 0)),
		ends(wait(0, 1, 2)), ends(look(0)),
	)
	for _, n := range outside(64) {
		no = append(no, nothing(n), look(n), load(n, 1, 2), end(n))
	}
	for _, w := range outside(65536) {
		no = append(no, load(1, w, 2), wait(1, w, 2), store(1, w, 2, 2), cas(1, w, 2, 3), swap(1, w, 2, 3))
	}
	for _, d := range no {
		if Valid(list(d)) || Valid(list(nothing(1), d)) || Valid(list(d, nothing(2))) {
			t.Error("valid:", d)
		}
	}
}

// P13.1: of a thread nothing is done behind what has ended; others go on.
func TestValidEnd(t *testing.T) {
	for i, c := range []struct {
		l  []api.Did
		is bool
	}{
		{nil, true},
		{list(), true},
		{list(end(0)), true},
		{list(end(0), end(1), end(63)), true},
		{list(nothing(1), end(1), nothing(0), look(0), end(0)), true},
		{list(end(0), nothing(0)), false},
		{list(end(0), end(0)), false},
		{list(end(0), look(0)), false},
		{list(ends(store(63, 1, 0, 1)), nothing(1), load(63, 1, 1)), false},
		{list(end(0), end(1), nothing(2), load(0, 5, 1)), false},
		{list(end(0), nothing(1), end(1), nothing(1)), false},
	} {
		if is := Valid(c.l); is != c.is {
			t.Error(i, is)
		}
	}
}

// P13.1 to P13.3: a trace has at most 100000 things.
func TestLength(t *testing.T) {
	l := make([]api.Did, 100001)
	for i := range l {
		l[i] = store(i%64, i%2, uint64(i/2), uint64(i/2+1))
	}
	if MaxTrace != 100000 || Valid(l) || !Valid(l[:100000]) {
		t.Error("wrong length")
	}
	l = l[:100000]
	wantCheck(t, words(0, 0), l, -1, 50000, 50000)
	if at, e := Changes(l, 1); len(at) != 50000 || at[49999] != 99999 || e != api.OK {
		t.Error(len(at), e)
	}
	if its, e := Of(l, 31); len(its) != 1563 || its[1562] != l[31+64*1562] || e != api.OK {
		t.Error(len(its), e)
	}
	for i := range l {
		l[i] = wait(i%64, 0, 0)
	}
	want := make([]api.Waited, 64)
	for i := range want {
		want[i] = waited(i, 0, i, -1, -1)
	}
	wantWaits(t, l, want...)
	l[99999] = store(63, 0, 0, 1)
	for i := range 63 {
		want[i] = waited(i, 0, i, 99999, 63)
	}
	wantWaits(t, l, want...)
}

// P13.1: Of returns what one thread has done, in order.
func TestOf(t *testing.T) {
	l := list(load(3, 1, 5), nothing(0), wait(63, 1, 5), load(3, 1, 5), store(0, 1, 5, 6), look(3), ends(cas(3, 1, 6, 6)), end(0))
	for n, want := range map[int][]api.Did{0: {l[1], l[4], l[7]}, 1: nil, 3: {l[0], l[3], l[5], l[6]}, 62: nil, 63: {l[2]}} {
		if its, e := Of(l, n); !slices.Equal(its, want) || e != api.OK {
			t.Error(n, its, e)
		}
	}
	if its, e := Of(nil, 5); len(its) > 0 || e != api.OK {
		t.Error(its, e)
	}
}

// P13.3: Changes returns where the value of a word becomes another one, whatever the kind of access; what has no access changes no word, also not the word 0.
func TestChanges(t *testing.T) {
	l := list(store(0, 0, 0, 1), nothing(1), store(1, 0, 1, 1), load(2, 0, 1), cas(3, 0, 1, 1), cas(3, 0, 1, 2), look(4), wait(4, 0, 2), swap(5, 0, 2, 2), swap(5, 0, 2, 0),
		store(0, 65535, 9, 8), ends(store(1, 0, 0, 7)))
	for w, want := range map[int][]int{0: {0, 5, 9, 11}, 1: nil, 65534: nil, 65535: {10}} {
		if at, e := Changes(l, w); !slices.Equal(at, want) || e != api.OK {
			t.Error(w, at, e)
		}
	}
	if at, e := Changes(nil, 0); len(at) > 0 || e != api.OK {
		t.Error(at, e)
	}
}

// P13.3: it need not fit any words: what changes a word does so all the same.
func TestChangesWithoutFitting(t *testing.T) {
	l := list(store(0, 1, 5, 6), store(0, 1, 5, 6), wait(1, 1, 0), swap(2, 1, 0, 9), load(1, 1, 3))
	wantCheck(t, words(0, 5), l, 1)
	if at, e := Changes(l, 1); !slices.Equal(at, []int{0, 1, 3}) || e != api.OK {
		t.Error(at, e)
	}
	wantWaits(t, l, waited(1, 1, 2, 3, 2))
}
