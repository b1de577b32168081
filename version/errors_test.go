package version

import (
	"fmt"
	"testing"

	"ticketline/api"
	"ticketline/mem"
)

// inside returns all that a program has, as text.
func inside(t *testing.T, p api.Program) string {
	t.Helper()
	switch x := p.(type) {
	case *Read:
		return fmt.Sprintf("%T %+v", x, *x)
	case *Write:
		return fmt.Sprintf("%T %+v", x, *x)
	}
	t.Fatal("no program of this layer")
	return ""
}

// failing is an arena whose accesses have an error, if it is not api.OK, with values that must not be used; it counts them.
type failing struct {
	*mem.Mem
	e    api.Errno
	made int
}

func (f *failing) Load(w int) (uint64, api.Errno) {
	if f.made++; f.e != api.OK {
		return 3, f.e
	}
	return f.Mem.Load(w)
}

func (f *failing) Store(w int, v uint64) api.Errno {
	if f.made++; f.e != api.OK {
		return f.e
	}
	return f.Mem.Store(w, v)
}

func (f *failing) CAS(w int, old, new uint64) (bool, api.Errno) {
	f.made++
	return true, f.e
}

func (f *failing) Swap(w int, v uint64) (uint64, api.Errno) {
	f.made++
	return 3, f.e
}

// wantError checks that a step has an error, again and again, and that the program stays as it is.
func wantError(t *testing.T, p api.Program, m api.Memory, want api.Errno) {
	t.Helper()
	was := inside(t, p)
	for range 2 {
		if waits, e := p.Step(m); waits || e != want {
			t.Error(waits, e, "and not", want)
		}
	}
	if inside(t, p) != was {
		t.Error("changed by an error")
	}
}

// P11.2, P11.3: nil and zero programs.
func TestNone(t *testing.T) {
	g := example(t)
	var r *Read
	var w *Write
	for i, p := range []api.Program{r, &Read{}, w, &Write{}} {
		for _, m := range []api.Memory{nil, g.m, struct{ api.Memory }{}} {
			if waits, e := p.Step(m); waits || e != api.ErrNil {
				t.Error(i, waits, e)
			}
		}
		if !p.Done() || p.Result() != 0 || p.Copy() != nil {
			t.Error(i, p.Done(), p.Result(), p.Copy())
		}
		wantNothing(t, p)
	}
	g.want(0, make([]uint64, 8)...)
}

// somewhere calls a function with programs at all of their steps, one after the other, each with the arena for the next one.
func somewhere(t *testing.T, f func(g ground, p api.Program)) {
	t.Helper()
	g := made(t, 2, 5, 6, 7)
	for _, p := range []api.Program{g.read(0, 1, 2, 1), g.read(0, 1, 0, 2)} {
		for !p.Done() {
			g.set(0, 3)
			if p.(*Read).next == lookFirst {
				f(g, p)
				g.steps(p, "w")
			}
			g.set(0, 2)
			f(g, p)
			p.Step(g.m)
		}
	}
	p := g.read(0, 1, 2, 2)
	for _, version := range []uint64{2, 2, 2, 4, 6, 6, 6, 8} {
		g.set(0, version)
		f(g, p)
		p.Step(g.m)
	}
	if !p.Done() || p.Result() != 0 {
		t.Error(p.Done(), p.Result())
	}
	for _, p := range []api.Program{g.write(0, 1, 8, 9), g.write(0, 1)} {
		for !p.Done() {
			f(g, p)
			p.Step(g.m)
		}
	}
	g.want(0, 12, 8, 9, 7)
}

// ends returns programs that have ended, with the results 1 and 0.
func ends(t *testing.T) (g ground, l []api.Program) {
	t.Helper()
	g = made(t, 2, 5, 6, 7)
	w, r, none, f := g.write(0, 1, 8), g.read(0, 1, 2, 2), g.read(0, 1, 0, 1), g.read(0, 1, 1, 1)
	g.steps(f, "ss")
	g.steps(w, "ssse")
	g.steps(r, "ssse")
	g.steps(none, "se")
	g.steps(f, "f")
	return g, []api.Program{w, r, none, f, w.Copy(), r.Copy(), none.Copy(), f.Copy()}
}

// P11.2: a nil Memory, at each step, and at the end, where it comes before ErrEnd; likewise arenas that are nil or zero behind the interface, but for the end.
func TestNilMemory(t *testing.T) {
	somewhere(t, func(g ground, p api.Program) {
		for _, m := range []api.Memory{nil, (*mem.Mem)(nil), &mem.Mem{}, (*mem.Once)(nil), &mem.Once{}} {
			wantError(t, p, m, api.ErrNil)
		}
	})
	_, l := ends(t)
	for _, p := range l {
		wantError(t, p, nil, api.ErrNil)
	}
}

// P1: a Memory that panics, since there is nothing behind it, is as none.
func TestPanics(t *testing.T) {
	somewhere(t, func(g ground, p api.Program) {
		wantError(t, p, struct{ api.Memory }{}, api.ErrNil)
		wantError(t, p, (*failing)(nil), api.ErrNil)
	})
}

// P11.2: the errors of the arena, at each step; the program goes on when they are over.
func TestArenaErrors(t *testing.T) {
	somewhere(t, func(g ground, p api.Program) {
		was := g.m.Copy()
		for _, e := range []api.Errno{api.ErrNil, api.ErrRange, api.ErrBusy, api.ErrEnd, 99, -1} {
			f := &failing{Mem: g.m, e: e}
			wantError(t, p, f, e)
			if f.made != 2 || !g.m.Same(was) {
				t.Error(f.made, "accesses")
			}
		}
	})
}

// P11.2: an arena that has the word of a step, and none behind it, is large enough for this step; one that has not, is not.
func TestSmallArenas(t *testing.T) {
	for _, c := range [][2]int{{0, 4}, {5, 2}, {9, 4}} {
		g := ground{T: t}
		for i, p := range []api.Program{g.read(c[0], c[1], 2, 1), g.write(c[0], c[1], 1, 2)} {
			for _, w := range [][]int{{c[0], c[1], c[1] + 1, c[0]}, {c[0], c[0], c[1], c[1] + 1, c[0]}}[i] {
				if w > 0 {
					wantError(t, p, made(t, make([]uint64, w)...).m, api.ErrRange)
				}
				if waits, e := p.Step(made(t, make([]uint64, w+1)...).m); waits || e != api.OK {
					t.Error(c, i, w, waits, e)
				}
			}
			if !p.Done() || p.Result() != 1 {
				t.Error(c, i)
			}
		}
	}
}

// P11.2: an arena that has allowed its one access already.
func TestBusyArena(t *testing.T) {
	somewhere(t, func(g ground, p api.Program) {
		o, e := mem.NewOnce(g.m)
		if e != api.OK {
			t.Fatal(e)
		}
		o.Load(0)
		wantError(t, p, o, api.ErrBusy)
	})
}

// P11.2: a program that has ended makes no further step, and no access, and keeps its result.
func TestEnd(t *testing.T) {
	g, l := ends(t)
	was := g.m.Copy()
	for i, p := range l {
		for _, e := range []api.Errno{api.OK, api.ErrRange} {
			f := &failing{Mem: g.m, e: e}
			wantError(t, p, f, api.ErrEnd)
			want := uint64(1)
			if i%4 == 3 {
				want = 0
			}
			if f.made != 0 || !p.Done() || p.Result() != want {
				t.Error(i, f.made, p.Done(), p.Result())
			}
		}
	}
	wantRead(t, l[1].(*Read), 4, 8, 6)
	if !g.m.Same(was) {
		t.Error("a word has changed")
	}
}

// P11.2: whatever odd number the version is, a program that writes does not begin, and begins as soon as it is even; in the steps behind the first one the version is not looked at.
func TestWriteState(t *testing.T) {
	for _, v := range []uint64{1, 3, 1<<32 + 1, 1<<63 + 1, most} {
		g := made(t, v, 5)
		w := g.write(0, 1, 9)
		wantError(t, w, g.m, api.ErrState)
		wantError(t, w.Copy(), g.m, api.ErrState)
		wantError(t, w, nil, api.ErrNil)
		wantError(t, w, &failing{Mem: g.m, e: api.ErrBusy}, api.ErrBusy)
		g.want(0, v, 5)
		g.set(0, v-1)
		g.steps(w, "s")
		g.set(0, v)
		g.steps(w, "sse")
		g.want(0, v+1, 9)
	}
}

// P11.2: two programs that write at once: the second one does not begin while the first one is between its second and its last step.
func TestWriteTwice(t *testing.T) {
	g := made(t, 0, 5)
	v, w := g.write(0, 1, 9), g.write(0, 1, 8)
	g.steps(v, "s")
	for range 2 {
		g.steps(v, "s")
		wantError(t, w, g.m, api.ErrState)
	}
	g.steps(v, "e")
	g.steps(w, "ssse")
	g.want(0, 4, 8)
}
