package mem

import (
	"slices"
	"testing"

	"ticketline/api"
)

const words = 5

// samples returns accesses of all kinds and words, with values so small that CAS finds them now and then.
func samples(many int) []api.Access {
	seed := uint64(1)
	next := func(n uint64) uint64 {
		seed = seed*6364136223846793005 + 1442695040888963407
		return (seed >> 33) % n
	}
	l := make([]api.Access, many)
	for i := range l {
		l[i] = api.Access{Kind: api.AccessLoad + api.AccessKind(next(4)), Word: int(next(words)), Before: next(3), After: next(3)}
	}
	return l
}

// P1.5: no access changes any other word, Load changes none, and an access is the same when it is made again.
func TestAccessesAgain(t *testing.T) {
	m := filled(t, make([]uint64, words)...)
	for i, a := range samples(4000) {
		as := m.Copy()
		did, e := m.Do(a)
		if e != api.OK || did.Kind != a.Kind || did.Word != a.Word {
			t.Fatal(i, a, did, e)
		}
		want, _ := as.Words(0, words)
		if did.Before != want[a.Word] {
			t.Fatal(i, a, did, want)
		}
		want[a.Word] = did.After
		wantWords(t, m, want...)
		if a.Kind == api.AccessLoad && !m.Same(as) {
			t.Fatal(i, "Load has changed something")
		}
		if again, e := as.Do(did); again != did || e != api.OK || !as.Same(m) {
			t.Fatal(i, a, did, again, e)
		}
	}
}

// P1.5: the methods make the same accesses as Do, on an arena and on an Once of it.
func TestMethodsAreDo(t *testing.T) {
	by, direct, noted := filled(t, make([]uint64, words)...), filled(t, make([]uint64, words)...), filled(t, make([]uint64, words)...)
	for i, a := range samples(4000) {
		did, _ := by.Do(a)
		o := once(t, noted)
		for _, m := range []api.Memory{direct, o} {
			was, is, e := call(m, a)
			wantIs := a.Kind == api.AccessCAS && did.Before == a.Before
			wantWas := did.Before
			if a.Kind == api.AccessStore || a.Kind == api.AccessCAS {
				wantWas = 0
			}
			if e != api.OK || is != wantIs || was != wantWas {
				t.Fatal(i, a, was, is, e)
			}
		}
		if o.Access() != did || !by.Same(direct) || !by.Same(noted) {
			t.Fatal(i, a, did, o.Access())
		}
	}
}

// call makes an access by the method of its kind.
func call(m api.Memory, a api.Access) (was uint64, is bool, e api.Errno) {
	switch a.Kind {
	case api.AccessLoad:
		was, e = m.Load(a.Word)
	case api.AccessStore:
		e = m.Store(a.Word, a.After)
	case api.AccessCAS:
		is, e = m.CAS(a.Word, a.Before, a.After)
	case api.AccessSwap:
		was, e = m.Swap(a.Word, a.After)
	}
	return was, is, e
}

// P1.5: of two stores the second one stays, and two swaps take each other back.
func TestTwice(t *testing.T) {
	for w := range words {
		start := []uint64{9, 8, 7, most, 0}
		m, n := filled(t, start...), filled(t, start...)
		m.Store(w, 3)
		m.Store(w, 4)
		n.Store(w, 4)
		if !m.Same(n) {
			t.Error(w, "stores")
		}
		m = filled(t, start...)
		was, _ := m.Swap(w, 6)
		if v, e := m.Swap(w, was); v != 6 || e != api.OK {
			t.Error(w, v, e)
		}
		wantWords(t, m, start...)
	}
}

// P1: no call panics; those that the arena does not allow return errors and change nothing.
func FuzzCalls(f *testing.F) {
	f.Add(3, 1, 1, uint64(0), uint64(1), 0, 3)
	f.Add(0, 0, 0, uint64(0), uint64(0), 0, 0)
	f.Add(-1, -1, -1, uint64(most), uint64(most), -1, -1)
	f.Add(1<<16, 4, 1<<16-1, uint64(0), uint64(most), 1<<16, 0)
	f.Add(1<<62, 5, 1<<62, uint64(1), uint64(0), 1<<62, -1<<63)
	f.Fuzz(func(t *testing.T, n, kind, w int, before, after uint64, from, to int) {
		m, e := New(n)
		if (m != nil) != (n >= 1 && n <= api.MaxWords) || (m != nil) != (e == api.OK) {
			t.Fatal(n, e)
		}
		as := m.Copy()
		did, e := m.Do(api.Access{Kind: api.AccessKind(kind), Word: w, Before: before, After: after})
		if fine := m != nil && kind >= 1 && kind <= 4 && w >= 0 && w < n; fine != (e == api.OK) {
			t.Fatal(n, kind, w, e)
		}
		if e != api.OK && (did != (api.Access{}) || m != nil && !m.Same(as)) {
			t.Fatal("an error has changed something", did)
		}
		l, e := m.Words(from, to)
		if fine := m != nil && from >= 0 && from <= to && to <= n; fine != (e == api.OK) || fine && len(l) != to-from {
			t.Fatal(n, from, to, len(l), e)
		}
		o, e := NewOnce(as)
		if (o != nil) != (m != nil) || (o != nil) != (e == api.OK) || o.Len() != as.Len() {
			t.Fatal(n, e)
		}
		_, e = o.Swap(w, after)
		_, f := o.Load(w)
		if e == api.OK && f != api.ErrBusy || e != api.OK && (e != f || !slices.Contains([]api.Errno{api.ErrNil, api.ErrRange}, e)) {
			t.Fatal(n, w, e, f)
		}
	})
}
