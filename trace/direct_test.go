package trace

import (
	"math/rand"
	"slices"
	"testing"

	"ticketline/api"
)

// directValid asks what the chapter says of a trace, one after the other.
func directValid(l []api.Did) bool {
	for i, d := range l {
		a := d.Access
		if d.Thread < 0 || d.Thread > 63 {
			return false
		}
		if a.Kind == api.AccessNone && (a.Word != 0 || a.Before != 0 || a.After != 0) {
			return false
		}
		if a.Kind != api.AccessNone && (!slices.Contains([]api.AccessKind{api.AccessLoad, api.AccessStore, api.AccessCAS, api.AccessSwap}, a.Kind) || a.Word < 0 || a.Word > 65535) {
			return false
		}
		if a.Kind == api.AccessLoad && a.Before != a.After {
			return false
		}
		if d.Waits && (d.Ended || a.Kind != api.AccessLoad && a.Kind != api.AccessNone) {
			return false
		}
		if d.Ended && slices.ContainsFunc(l[i+1:], func(x api.Did) bool { return x.Thread == d.Thread }) {
			return false
		}
	}
	return len(l) <= 100000
}

// directWaits returns the waits of a trace, each looked for by itself.
func directWaits(l []api.Did) (waits []api.Waited) {
	for i, d := range l {
		if !atWord(d, d.Access.Word) {
			continue
		}
		before := slices.IndexFunc(backwards(l[:i]), func(x api.Did) bool { return x.Thread == d.Thread })
		if before >= 0 && atWord(l[i-1-before], d.Access.Word) {
			continue
		}
		w := api.Waited{Thread: d.Thread, Word: d.Access.Word, From: i, To: -1, By: -1}
		for j := i + 1; j < len(l); j++ {
			if l[j].Thread == d.Thread && !atWord(l[j], d.Access.Word) {
				break
			}
			if l[j].Thread != d.Thread && hasChanged(l[j], d.Access.Word) {
				w.To, w.By = j, l[j].Thread
			}
		}
		waits = append(waits, w)
	}
	return waits
}

// atWord reports whether something has waited at a word.
func atWord(d api.Did, w int) bool {
	return d.Waits && d.Access.Kind != api.AccessNone && d.Access.Word == w
}

// hasChanged reports whether something has changed a word.
func hasChanged(d api.Did, w int) bool {
	return d.Access.Kind != api.AccessNone && d.Access.Word == w && d.Access.Before != d.Access.After
}

// backwards returns a list from its end.
func backwards(l []api.Did) []api.Did {
	c := slices.Clone(l)
	slices.Reverse(c)
	return c
}

// directReplay makes the accesses of a trace on words that are kept one by one, and returns where it does not fit, -1 if it does.
func directReplay(start []uint64, l []api.Did) (map[int]uint64, int) {
	now := map[int]uint64{}
	for w, v := range start {
		now[w] = v
	}
	for i, d := range l {
		if d.Access.Kind == api.AccessNone {
			continue
		}
		if v, is := now[d.Access.Word]; !is || v != d.Access.Before {
			return now, i
		}
		now[d.Access.Word] = d.Access.After
	}
	return now, -1
}

// P13.1 to P13.3: traces that come by chance, and what is one but for a few things, against what the chapter says.
func TestDirect(t *testing.T) {
	r := rand.New(rand.NewSource(13))
	valid, fit, many := 0, 0, 0
	for range 20000 {
		start := make([]uint64, 1+r.Intn(4))
		l, _ := play(r, start, 1+r.Intn(5), r.Intn(60))
		for range max(0, r.Intn(4)-1) {
			l = spoil(r, l)
		}
		is := directValid(l)
		if Valid(l) != is {
			t.Fatal(l, !is)
		}
		if !is {
			wantErrors(t, start, l, 0, 0, api.ErrArg)
			continue
		}
		valid++
		want := directWaits(l)
		wantWaits(t, l, want...)
		many += len(want)
		now, at := directReplay(start, l)
		if at < 0 {
			fit++
			wantCheck(t, start, l, -1, inOrder(now)...)
		} else {
			wantCheck(t, start, l, at)
		}
		wantParts(t, l)
	}
	if valid < 8000 || valid > 19000 || fit < 5000 || fit > valid-1000 || many < valid {
		t.Error(valid, fit, many)
	}
}

// inOrder returns words that are kept one by one.
func inOrder(now map[int]uint64) []uint64 {
	l := make([]uint64, len(now))
	for w, v := range now {
		l[w] = v
	}
	return l
}

// wantParts checks what changes words of a trace, and what its threads have done.
func wantParts(t *testing.T, l []api.Did) {
	t.Helper()
	for w := range 5 {
		want := indices(l, func(i int) bool { return hasChanged(l[i], w) })
		if at, e := Changes(l, w); !slices.Equal(at, want) || e != api.OK {
			t.Fatal(l, w, at, e)
		}
	}
	for n := range 6 {
		its, e := Of(l, n)
		at := indices(l, func(i int) bool { return l[i].Thread == n })
		if len(its) != len(at) || e != api.OK {
			t.Fatal(l, n, its, e)
		}
		for i, x := range at {
			if its[i] != l[x] {
				t.Fatal(l, n, its)
			}
		}
	}
}

// spoil changes a thing of a list, or the order of two.
func spoil(r *rand.Rand, l []api.Did) []api.Did {
	if len(l) == 0 {
		return list(look(r.Intn(66) - 1))
	}
	d := &l[r.Intn(len(l))]
	switch r.Intn(9) {
	case 0:
		d.Thread = r.Intn(6) - r.Intn(2)
	case 1:
		d.Access.Kind = api.AccessKind(r.Intn(8) - 1)
	case 2:
		d.Access.Word = r.Intn(6) - 1
	case 3:
		d.Access.Before = uint64(r.Intn(3))
	case 4:
		d.Access.After = uint64(r.Intn(3))
	case 5:
		d.Waits = !d.Waits
	case 6:
		d.Ended = !d.Ended
	case 7:
		x := &l[r.Intn(len(l))]
		*d, *x = *x, *d
	case 8:
		return slices.Delete(l, 0, 1)
	}
	return l
}
