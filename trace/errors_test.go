package trace

import (
	"math"
	"slices"
	"testing"

	"ticketline/api"
)

// wantErrors checks the errors of all functions but Valid, and that with an error they return nothing else.
func wantErrors(t *testing.T, words []uint64, l []api.Did, w, thread int, want api.Errno) {
	t.Helper()
	at, e := Check(words, l)
	after, f := Replay(words, l)
	changed, g := Changes(l, w)
	its, h := Of(l, thread)
	if at != 0 || len(after) > 0 || len(changed) > 0 || len(its) > 0 || e != want || f != want || g != want || h != want {
		t.Error(at, len(after), len(changed), len(its), e, f, g, h, "want", want)
	}
}

// P13.1 to P13.3: more than 100000 things are too long, whatever they are, and before all else.
func TestTooLong(t *testing.T) {
	for _, d := range list(nothing(0), nothing(-1), look(0), end(0)) {
		l := slices.Repeat(list(d), 100001)
		wantErrors(t, words(0), l, 0, 0, api.ErrLong)
		wantErrors(t, nil, l, -1, 64, api.ErrLong)
		if waits, e := Waits(l); len(waits) > 0 || e != api.ErrLong {
			t.Error(len(waits), e)
		}
	}
}

// P13.1 to P13.3: what is no trace, whatever else is given.
func TestNoTrace(t *testing.T) {
	for _, l := range [][]api.Did{list(nothing(64)), list(wait(0, 0, 0), end(0), load(0, 0, 0)), list(load(0, 0, 5), ends(look(1))), list(waits(store(0, 0, 0, 1))), list(did(0, 5, 0, 0, 0)), list(load(0, 65536, 0))} {
		wantErrors(t, words(0), l, 0, 0, api.ErrArg)
		wantErrors(t, nil, l, -1, -1, api.ErrArg)
		if waits, e := Waits(l); len(waits) > 0 || e != api.ErrArg {
			t.Error(waits, e)
		}
	}
}

// P13.1 to P13.3: words, a word or a thread that cannot be, of traces that are some.
func TestWrongArguments(t *testing.T) {
	for _, l := range [][]api.Did{nil, list(load(0, 0, 5)), list(wait(0, 0, 5), end(63))} {
		for _, words := range [][]uint64{nil, {}, make([]uint64, 65537), make([]uint64, 1<<20)} {
			for _, n := range outside(64) {
				w := n
				if n > 0 {
					w = max(n, 65536)
				}
				wantErrors(t, words, l, w, n, api.ErrArg)
			}
		}
	}
	wantErrors(t, nil, nil, 65537, 65, api.ErrArg)
	wantErrors(t, nil, nil, math.MinInt, math.MinInt, api.ErrArg)
	l := list(load(0, 65535, 5))
	if at, e := Changes(l, 65535); len(at) > 0 || e != api.OK {
		t.Error(at, e)
	}
	if its, e := Of(l, 63); len(its) > 0 || e != api.OK {
		t.Error(its, e)
	}
	if at, e := Check(make([]uint64, 65536), l); at != 0 || e != api.OK {
		t.Error(at, e)
	}
}

// P13.1 to P13.3: what is given is neither changed nor kept, nor shared with what is returned.
func TestNothingIsShared(t *testing.T) {
	l := list(wait(1, 0, 0), store(0, 0, 0, 1), load(1, 0, 1), end(1))
	same := slices.Clone(l)
	its, _ := Of(l, 1)
	its[0], its[1] = nothing(5), nothing(6)
	its = append(its[:1], nothing(9), nothing(9), nothing(9))
	at, _ := Changes(l, 0)
	at[0] = 7
	waits, _ := Waits(l)
	waits[0].From = 7
	if !slices.Equal(l, same) || len(its) != 4 {
		t.Error(l)
	}
	wantWaits(t, l, waited(1, 0, 0, 1, 0))
	if at, e := Changes(l, 0); !slices.Equal(at, []int{1}) || e != api.OK {
		t.Error(at, e)
	}
}
