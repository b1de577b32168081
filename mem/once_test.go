package mem

import (
	"math"
	"testing"

	"ticketline/api"
)

// once returns an arena that allows one access of another one.
func once(t *testing.T, m *Mem) *Once {
	t.Helper()
	o, e := NewOnce(m)
	if o == nil || e != api.OK {
		t.Fatal(e)
	}
	return o
}

// wantBusy checks that no access is allowed any more, whatever its word is.
func wantBusy(t *testing.T, o *Once) {
	t.Helper()
	for _, w := range []int{0, 1, -1, math.MaxInt} {
		if v, e := o.Load(w); v != 0 || e != api.ErrBusy {
			t.Error("Load", w, v, e)
		}
		if e := o.Store(w, 77); e != api.ErrBusy {
			t.Error("Store", w, e)
		}
		if is, e := o.CAS(w, 0, 77); is || e != api.ErrBusy {
			t.Error("CAS", w, is, e)
		}
		if v, e := o.Swap(w, 77); v != 0 || e != api.ErrBusy {
			t.Error("Swap", w, v, e)
		}
	}
}

// P1.4: the rows of the chapter's example.
func TestExampleOnce(t *testing.T) {
	m := filled(t, 0, 0, 0, 0)
	o := once(t, m)
	if v, e := o.Load(9); v != 0 || e != api.ErrRange {
		t.Error(v, e)
	}
	if a := o.Access(); a != (api.Access{}) {
		t.Error(a)
	}
	if e := o.Store(1, 2); e != api.OK {
		t.Error(e)
	}
	if a := o.Access(); a != (api.Access{Kind: api.AccessStore, Word: 1, Before: 0, After: 2}) {
		t.Error(a)
	}
	if v, e := o.Load(1); v != 0 || e != api.ErrBusy {
		t.Error(v, e)
	}
	if v, e := m.Load(1); v != 2 || e != api.OK {
		t.Error(v, e)
	}
}

// P1.4: each access is made on the arena, noted, and the only one.
func TestOnceEach(t *testing.T) {
	for name, c := range map[string]struct {
		access func(*testing.T, *Once)
		want   api.Access
	}{
		"load": {func(t *testing.T, o *Once) {
			if v, e := o.Load(0); v != 5 || e != api.OK {
				t.Error(v, e)
			}
		}, api.Access{Kind: api.AccessLoad, Word: 0, Before: 5, After: 5}},
		"store": {func(t *testing.T, o *Once) {
			if e := o.Store(1, 8); e != api.OK {
				t.Error(e)
			}
		}, api.Access{Kind: api.AccessStore, Word: 1, Before: 6, After: 8}},
		"store of the same": {func(t *testing.T, o *Once) {
			if e := o.Store(1, 6); e != api.OK {
				t.Error(e)
			}
		}, api.Access{Kind: api.AccessStore, Word: 1, Before: 6, After: 6}},
		"CAS": {func(t *testing.T, o *Once) {
			if is, e := o.CAS(1, 6, 0); !is || e != api.OK {
				t.Error(is, e)
			}
		}, api.Access{Kind: api.AccessCAS, Word: 1, Before: 6, After: 0}},
		"CAS that fails": {func(t *testing.T, o *Once) {
			if is, e := o.CAS(0, 6, 0); is || e != api.OK {
				t.Error(is, e)
			}
		}, api.Access{Kind: api.AccessCAS, Word: 0, Before: 5, After: 5}},
		"swap": {func(t *testing.T, o *Once) {
			if v, e := o.Swap(0, 7); v != 5 || e != api.OK {
				t.Error(v, e)
			}
		}, api.Access{Kind: api.AccessSwap, Word: 0, Before: 5, After: 7}},
	} {
		t.Run(name, func(t *testing.T) {
			m := filled(t, 5, 6)
			after := []uint64{5, 6}
			after[c.want.Word] = c.want.After
			o := once(t, m)
			c.access(t, o)
			wantBusy(t, o)
			if a := o.Access(); a != c.want {
				t.Error(a)
			}
			if o.Len() != 2 {
				t.Error(o.Len())
			}
			wantWords(t, m, after...)
		})
	}
}

// P1.4: accesses with errors are not noted, and do not use the one that is allowed up.
func TestOnceRange(t *testing.T) {
	m := filled(t, 0, 4)
	o := once(t, m)
	for _, w := range outside(2) {
		if v, e := o.Load(w); v != 0 || e != api.ErrRange {
			t.Error(w, v, e)
		}
		if e := o.Store(w, 1); e != api.ErrRange {
			t.Error(w, e)
		}
		if is, e := o.CAS(w, 0, 1); is || e != api.ErrRange {
			t.Error(w, is, e)
		}
		if v, e := o.Swap(w, 1); v != 0 || e != api.ErrRange {
			t.Error(w, v, e)
		}
		if a := o.Access(); a != (api.Access{}) {
			t.Error(w, a)
		}
	}
	wantWords(t, m, 0, 4)
	if v, e := o.Load(1); v != 4 || e != api.OK {
		t.Error(v, e)
	}
}

// P1.4: each Once of an arena allows an access of its own, and none stands in the way of the arena's.
func TestOncesOfOneArena(t *testing.T) {
	m := filled(t, 0)
	first, second := once(t, m), once(t, m)
	if e := first.Store(0, 1); e != api.OK {
		t.Error(e)
	}
	if e := m.Store(0, 2); e != api.OK {
		t.Error(e)
	}
	if v, e := second.Swap(0, 3); v != 2 || e != api.OK {
		t.Error(v, e)
	}
	if a := first.Access(); a != (api.Access{Kind: api.AccessStore, After: 1}) {
		t.Error(a)
	}
	wantWords(t, m, 3)
}

// P1.4: nil and zero objects.
func TestNoOnce(t *testing.T) {
	for i, none := range nones() {
		if o, e := NewOnce(none); o != nil || e != api.ErrNil {
			t.Error(i, o, e)
		}
	}
	for i, o := range []*Once{nil, {}} {
		for _, w := range []int{0, -1, math.MaxInt} {
			if v, e := o.Load(w); v != 0 || e != api.ErrNil {
				t.Error(i, w, v, e)
			}
			if e := o.Store(w, 1); e != api.ErrNil {
				t.Error(i, w, e)
			}
			if is, e := o.CAS(w, 0, 1); is || e != api.ErrNil {
				t.Error(i, w, is, e)
			}
			if v, e := o.Swap(w, 1); v != 0 || e != api.ErrNil {
				t.Error(i, w, v, e)
			}
		}
		if o.Len() != 0 || o.Access() != (api.Access{}) {
			t.Error(i, o.Len(), o.Access())
		}
	}
}
