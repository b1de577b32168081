package trace

import (
	"math"
	"math/rand"
	"slices"
	"testing"

	"ticketline/api"
)

// The things that a thread does: it makes an access, waits with one or without, does nothing, or ends.

func did(t int, kind api.AccessKind, w int, before, after uint64) api.Did {
	return api.Did{Thread: t, Access: api.Access{Kind: kind, Word: w, Before: before, After: after}}
}

func load(t, w int, v uint64) api.Did       { return did(t, api.AccessLoad, w, v, v) }
func store(t, w int, was, v uint64) api.Did { return did(t, api.AccessStore, w, was, v) }
func cas(t, w int, was, v uint64) api.Did   { return did(t, api.AccessCAS, w, was, v) }
func swap(t, w int, was, v uint64) api.Did  { return did(t, api.AccessSwap, w, was, v) }
func nothing(t int) api.Did                 { return api.Did{Thread: t} }
func look(t int) api.Did                    { return api.Did{Thread: t, Waits: true} }
func end(t int) api.Did                     { return ends(nothing(t)) }
func ends(d api.Did) api.Did                { d.Ended = true; return d }
func waits(d api.Did) api.Did               { d.Waits = true; return d }
func wait(t, w int, v uint64) api.Did       { return waits(load(t, w, v)) }

// waited returns a wait.
func waited(t, w, from, to, by int) api.Waited {
	return api.Waited{Thread: t, Word: w, From: from, To: to, By: by}
}

func list(l ...api.Did) []api.Did { return l }
func words(l ...uint64) []uint64  { return l }

// What the chapter's examples have.

func exampleA() api.Did          { return store(0, 5, 0, 1) }
func exampleB() api.Did          { return wait(1, 5, 0) }
func exampleC() api.Did          { return load(1, 5, 1) }
func sixWords(v uint64) []uint64 { return []uint64{v, v, v, v, v, v} }

// outside returns numbers that are not from 0 to below another one.
func outside(n int) []int {
	return []int{-1, n, n + 1, math.MinInt, math.MaxInt, 1 << 32, -1 << 32}
}

// indices returns the indices of a list of which something is true.
func indices(l []api.Did, is func(int) bool) (at []int) {
	for i := range l {
		if is(i) {
			at = append(at, i)
		}
	}
	return at
}

// wantWaits checks the waits of a trace.
func wantWaits(t *testing.T, l []api.Did, want ...api.Waited) {
	t.Helper()
	if got, e := Waits(l); !slices.Equal(got, want) || e != api.OK {
		t.Errorf("%v: %v, %v; want %v", l, got, e, want)
	}
}

// wantCheck checks where a trace does not fit some words, and what they are afterwards if it fits.
func wantCheck(t *testing.T, before []uint64, l []api.Did, want int, after ...uint64) {
	t.Helper()
	f := api.OK
	if want >= 0 {
		f = api.ErrCheck
	}
	at, e := Check(before, l)
	got, g := Replay(before, l)
	if at != want || e != api.OK || !slices.Equal(got, after) || g != f {
		t.Errorf("%v: %d, %v, %v, %v; want %d, %v, %v", l, at, e, got, g, want, after, f)
	}
}

// play returns a trace of some threads that fits some words, and the words afterwards; its threads wait often.
func play(r *rand.Rand, start []uint64, threads, length int) ([]api.Did, []uint64) {
	var l []api.Did
	now := slices.Clone(start)
	ended := make([]bool, threads)
	for range length {
		t, w := r.Intn(threads), r.Intn(len(now))
		if ended[t] {
			continue
		}
		d := chance(r, t, w, now[w])
		if d.Access.Kind != api.AccessNone {
			now[w] = d.Access.After
		}
		ended[t] = d.Ended
		l = append(l, d)
	}
	return l, now
}

// chance returns something that a thread may do at a word, which has a value.
func chance(r *rand.Rand, t, w int, v uint64) api.Did {
	switch r.Intn(16) {
	case 0:
		return nothing(t)
	case 1:
		return look(t)
	case 2:
		return load(t, w, v)
	case 3:
		return cas(t, w, v, v)
	case 4:
		return cas(t, w, v, uint64(r.Intn(3)))
	case 5:
		return swap(t, w, v, uint64(r.Intn(3)))
	case 6, 7:
		return store(t, w, v, uint64(r.Intn(3)))
	case 8:
		if r.Intn(8) > 0 {
			return load(t, w, v)
		}
		return ends(swap(t, w, v, uint64(r.Intn(3))))
	}
	return wait(t, w, v)
}
