package mcs

import (
	"math"
	"testing"

	"ticketline/api"
	"ticketline/mem"
)

// failing is an arena whose accesses have an error, if it is not api.OK, and do then what they like; it counts them.
type failing struct {
	*mem.Mem
	e    api.Errno
	made int
}

func (f *failing) Load(w int) (uint64, api.Errno) {
	if f.made++; f.e != api.OK {
		return 1, f.e
	}
	return f.Mem.Load(w)
}

func (f *failing) Store(w int, v uint64) api.Errno {
	if f.made++; f.e != api.OK {
		return f.e
	}
	return f.Mem.Store(w, v)
}

func (f *failing) CAS(w int, old, new uint64) (bool, api.Errno) {
	if f.made++; f.e != api.OK {
		return true, f.e
	}
	return f.Mem.CAS(w, old, new)
}

func (f *failing) Swap(w int, v uint64) (uint64, api.Errno) {
	if f.made++; f.e != api.OK {
		return 1, f.e
	}
	return f.Mem.Swap(w, v)
}

// wantError checks that a step has an error, again and again, and that the program stays as it is.
func wantError(t *testing.T, p api.Program, m api.Memory, want api.Errno) {
	t.Helper()
	was := inside(t, p)
	done, result := p.Done(), p.Result()
	for range 2 {
		if waits, e := p.Step(m); waits || e != want {
			t.Error(waits, e)
		}
	}
	if inside(t, p) != was || p.Done() != done || p.Result() != result {
		t.Error("changed by an error")
	}
}

// P8.2, P8.3: nil and zero programs.
func TestNone(t *testing.T) {
	var a *Acquire
	var r *Release
	g := example(t)
	for i, p := range []api.Program{a, &Acquire{}, r, &Release{}} {
		for _, m := range []api.Memory{nil, g.m} {
			if waits, e := p.Step(m); waits || e != api.ErrNil {
				t.Error(i, waits, e)
			}
		}
		if !p.Done() || p.Result() != 0 || p.Copy() != nil {
			t.Error(i, p.Done(), p.Result(), p.Copy())
		}
	}
	if !g.m.Same(arena(t, g.m.Len())) {
		t.Error("a word has changed")
	}
}

// somewhere calls a function with programs at all of their steps, one after the other, each with the arena for the next one.
func somewhere(t *testing.T, f func(g ground, p api.Program)) {
	t.Helper()
	for _, c := range []struct {
		acquire bool
		words   []uint64
		steps   string
	}{
		{true, nil, "sse"},
		{true, []uint64{0, 3}, "ssssw"},
		{false, []uint64{0, 1}, "se"},
		{false, []uint64{0, 3, 1, 3, 8, 1}, "se"},
		{false, []uint64{0, 3, 8, 1}, "ssw"},
	} {
		g := example(t)
		g.set(c.words...)
		p := g.both(0)[1]
		if c.acquire {
			p = g.both(0)[0]
		}
		for _, letter := range c.steps {
			f(g, p)
			g.steps(p, string(letter))
		}
	}
}

// P8.2: a nil Memory, at each step, and at the end, where it comes before ErrEnd; likewise arenas that are nil or zero behind the interface.
func TestNilMemory(t *testing.T) {
	somewhere(t, func(g ground, p api.Program) {
		for _, m := range []api.Memory{nil, (*mem.Mem)(nil), &mem.Mem{}, (*mem.Once)(nil), &mem.Once{}} {
			wantError(t, p, m, api.ErrNil)
		}
	})
	g := example(t)
	for i, p := range g.both(0) {
		g.set(0, uint64(i))
		for !p.Done() {
			p.Step(g.m)
		}
		wantError(t, p, nil, api.ErrNil)
	}
}

// P1: a Memory that panics, since there is nothing behind it, is as none.
func TestPanics(t *testing.T) {
	somewhere(t, func(g ground, p api.Program) {
		wantError(t, p, struct{ api.Memory }{}, api.ErrNil)
		wantError(t, p, (*failing)(nil), api.ErrNil)
	})
}

// P8.2: the errors of the arena, at each step; the program goes on when they are over.
func TestArenaErrors(t *testing.T) {
	somewhere(t, func(g ground, p api.Program) {
		was := g.m.Copy()
		for _, e := range []api.Errno{api.ErrNil, api.ErrRange, api.ErrBusy, api.ErrEnd, 99, -1} {
			f := &failing{Mem: g.m, e: e}
			wantError(t, p, f, e)
			if f.made != 2 || !g.m.Same(was) {
				t.Error(f.made, "accesses")
			}
		}
	})
}

// P8.2: an arena that has the word of a step, and none behind it, is large enough for this step; one that has not, is not.
func TestSmallArenas(t *testing.T) {
	for _, lock := range []int{0, 30} {
		g := ground{t, nil, nodes(t, 12, 3), lock}
		for i, p := range g.both(4) {
			want := [][]int{{24, 25, lock, 24, 25}, {24, lock, 24, 25}}[i]
			for _, w := range want {
				if w > 0 {
					wantError(t, p, arena(t, w), api.ErrRange)
				}
				m := arena(t, w+1)
				if w == lock {
					m.Store(w, 5-uint64(i)) // somebody is there before Acquire, and has come meanwhile for Release
				} else if i == 1 && p.(*Release).next == awaitNext {
					m.Store(w, 5)
				}
				if waits, e := p.Step(m); waits || e != api.OK {
					t.Error(lock, i, w, waits, e)
				}
			}
			if !p.Done() {
				t.Error(lock, i)
			}
		}
	}
}

// P8.2: an arena that has allowed its one access already.
func TestBusyArena(t *testing.T) {
	somewhere(t, func(g ground, p api.Program) {
		o, e := mem.NewOnce(g.m)
		if e != api.OK {
			t.Fatal(e)
		}
		o.Load(0)
		wantError(t, p, o, api.ErrBusy)
	})
}

// P8.2: a program that has ended makes no further step, and no access.
func TestEnd(t *testing.T) {
	g := example(t)
	a, r := g.acquire(0), g.release(0)
	g.steps(a, "sse")
	b := g.acquire(2)
	g.steps(b, "ssssw")
	g.steps(r, "se")
	g.steps(b, "e")
	s := g.release(2)
	g.steps(s, "se")
	for _, p := range []api.Program{a, r, b, s, a.Copy(), r.Copy()} {
		for _, e := range []api.Errno{api.OK, api.ErrRange} {
			f := &failing{Mem: g.m, e: e}
			wantError(t, p, f, api.ErrEnd)
			if f.made != 0 || !p.Done() || p.Result() != 1 {
				t.Error(f.made, p.Done(), p.Result())
			}
		}
	}
}

// strange returns what refers to no node of two threads.
func strange() []uint64 {
	return []uint64{5, 6, 99, 1 << 31, 1<<32 + 1, 1 << 63, 1<<63 + 1, math.MaxUint64 - 1, math.MaxUint64}
}

// wantMalformed checks that the next step stores nothing, and makes no access that could have an error of its own.
func (g ground) wantMalformed(p api.Program) {
	g.Helper()
	was := g.m.Copy()
	for _, e := range []api.Errno{api.OK, api.ErrRange} {
		f := &failing{Mem: g.m, e: e}
		wantError(g.T, p, f, api.ErrMalformed)
		if f.made != 0 || !g.m.Same(was) || p.Done() {
			g.Error(f.made, p.Done())
		}
	}
	wantError(g.T, p.Copy(), g.m, api.ErrMalformed)
	wantError(g.T, p, nil, api.ErrNil)
}

// P8.2: a lock that refers to no node is found only where something is to be stored in the node, and stays an error, even if the lock is another one then.
func TestAcquireMalformed(t *testing.T) {
	for _, ref := range strange() {
		g := example(t)
		g.set(0, ref)
		a := g.acquire(0)
		g.accesses(a, "sss", store(1, 0, 0), store(2, 0, 1), swap(0, ref, 1))
		g.wantMalformed(a)
		g.set(0, 3)
		g.wantMalformed(a)
	}
}

// P8.2: likewise the word next of a node, whether it was there at once, or somebody has come meanwhile.
func TestReleaseMalformed(t *testing.T) {
	for _, ref := range strange() {
		g := example(t)
		g.set(0, 1, 1, ref)
		r := g.release(0)
		g.accesses(r, "s", load(1, ref))
		g.wantMalformed(r)
		g.set(0, 3, 1, 0)
		g.wantMalformed(r)
		r = g.release(0)
		g.accesses(r, "ssw", load(1, 0), cas(0, 3, 3), load(1, 0))
		g.set(1, ref)
		g.accesses(r, "s", load(1, ref))
		g.wantMalformed(r)
	}
}

// P8.2: all that refers to a node is none of these.
func TestNotMalformed(t *testing.T) {
	for ref := uint64(1); ref <= 4; ref++ {
		g := example(t)
		g.set(0, ref)
		g.accesses(g.acquire(0), "sss", store(1, 0, 0), store(2, 0, 1), swap(0, ref, 1))
		g.set(0, ref)
		a := g.acquire(0)
		g.steps(a, "sss")
		g.accesses(a, "s", store(int(ref)*3-2, 0, 1))
		g = example(t)
		g.set(1, ref)
		g.accesses(g.release(0), "se", load(1, ref), store(int(ref)*3-1, 0, 0))
	}
}
