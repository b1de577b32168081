package latch

import (
	"math"
	"testing"

	"ticketline/api"
	"ticketline/mem"
	"ticketline/qnode"
)

// failing is an arena whose accesses have an error, if it is not api.OK, and do then what they like; it counts them.
type failing struct {
	*mem.Mem
	e    api.Errno
	made int
}

func (f *failing) Load(w int) (uint64, api.Errno) {
	if f.made++; f.e != api.OK {
		return 1, f.e
	}
	return f.Mem.Load(w)
}

func (f *failing) Store(w int, v uint64) api.Errno {
	if f.made++; f.e != api.OK {
		return f.e
	}
	return f.Mem.Store(w, v)
}

func (f *failing) CAS(w int, old, new uint64) (bool, api.Errno) {
	if f.made++; f.e != api.OK {
		return true, f.e
	}
	return f.Mem.CAS(w, old, new)
}

func (f *failing) Swap(w int, v uint64) (uint64, api.Errno) {
	if f.made++; f.e != api.OK {
		return 1, f.e
	}
	return f.Mem.Swap(w, v)
}

// wantError checks that a step has an error, again and again, and that the program stays as it is.
func wantError(t *testing.T, p *Move, m api.Memory, want api.Errno) {
	t.Helper()
	was, done, result := inside(p), p.Done(), p.Result()
	for range 2 {
		if waits, e := p.Step(m); waits || e != want {
			t.Error(waits, e, "and not", want)
		}
	}
	if inside(p) != was || p.Done() != done || p.Result() != result {
		t.Error("changed by an error")
	}
}

// P9.4: nil and zero programs.
func TestNone(t *testing.T) {
	g := example(t)
	var none *Move
	for i, p := range []api.Program{none, &Move{}} {
		for _, m := range []api.Memory{nil, g.m} {
			if waits, e := p.Step(m); waits || e != api.ErrNil {
				t.Error(i, waits, e)
			}
		}
		if !p.Done() || p.Result() != 0 || p.Copy() != nil {
			t.Error(i, p.Done(), p.Result(), p.Copy())
		}
	}
	if !g.m.Same(arena(t, 21)) {
		t.Error("a word has changed")
	}
}

// P9.4: a nil Memory comes before everything else; arenas that are nil or zero behind their interface have the same error.
func TestNilMemory(t *testing.T) {
	somewhere(t, func(g ground, p *Move) {
		wantError(t, p, nil, api.ErrNil)
		for _, m := range []api.Memory{(*mem.Mem)(nil), &mem.Mem{}, (*mem.Once)(nil), &mem.Once{}} {
			if p.Done() {
				wantError(t, p, m, api.ErrEnd)
			} else {
				wantError(t, p, m, api.ErrNil)
			}
		}
	})
}

// P1: a Memory that panics, since there is nothing behind it, is as none.
func TestPanics(t *testing.T) {
	somewhere(t, func(g ground, p *Move) {
		if !p.Done() {
			wantError(t, p, struct{ api.Memory }{}, api.ErrNil)
			wantError(t, p, (*failing)(nil), api.ErrNil)
		}
	})
	g := example(t)
	for _, m := range []api.Memory{struct{ api.Memory }{}, (*failing)(nil), (*mem.Mem)(nil), &mem.Mem{}} {
		if l, e := Look(m, g.n, 0); e != api.ErrNil || !same(l, api.Latch{}) {
			t.Error(l, e)
		}
	}
	g.set(2, 2<<24+2<<32)
	for many := range 3 {
		if l, e := Look(&breaking{g.m, many}, g.n, 0); e != api.ErrNil || !same(l, api.Latch{}) {
			t.Error(many, l, e)
		}
	}
}

// breaking is an arena that panics after some accesses.
type breaking struct {
	*mem.Mem
	many int
}

func (b *breaking) Load(w int) (uint64, api.Errno) {
	if b.many--; b.many < 0 {
		panic("broken")
	}
	return b.Mem.Load(w)
}

// P9.4: the errors of the arena, at each step; the program goes on when they are over.
func TestArenaErrors(t *testing.T) {
	somewhere(t, func(g ground, p *Move) {
		was := g.m.Copy()
		for _, e := range []api.Errno{api.ErrNil, api.ErrRange, api.ErrBusy, api.ErrEnd, 99, -1} {
			f := &failing{Mem: g.m, e: e}
			if p.Done() {
				wantError(t, p, f, api.ErrEnd)
				f.made += 2
			} else {
				wantError(t, p, f, e)
			}
			if f.made != 2 || !g.m.Same(was) {
				t.Error(f.made, "accesses")
			}
		}
	})
}

// P9.4: an arena that has allowed its one access already.
func TestBusyArena(t *testing.T) {
	somewhere(t, func(g ground, p *Move) {
		o, e := mem.NewOnce(g.m)
		if e != api.OK {
			t.Fatal(e)
		}
		o.Load(0)
		if !p.Done() {
			wantError(t, p, o, api.ErrBusy)
		}
	})
}

// P9.4: an arena that is too small for the word of a step has an error at this step.
func TestSmallArenas(t *testing.T) {
	for words := 1; words < 21; words++ {
		g := example(t)
		g.set(2, 1<<8)
		g.m = smaller(t, g.m, words)
		p := g.acquire(1, s)
		for !p.Done() {
			o, _ := mem.NewOnce(g.m)
			if waits, e := p.Step(o); e != api.OK {
				wantError(t, p, g.m, api.ErrRange)
				if words == 15 {
					t.Error("all words that are needed are there")
				}
				break
			} else if waits {
				if words < 15 {
					t.Error(words)
				}
				break
			}
		}
		p = g.acquire(0, s)
		if words < 6 {
			wantError(t, p, smaller(t, g.m, min(words, 3)), api.ErrRange)
		}
	}
}

// smaller returns an arena of the first words of another one.
func smaller(t *testing.T, m *mem.Mem, words int) *mem.Mem {
	t.Helper()
	out := arena(t, words)
	for w := range words {
		v, _ := m.Load(w)
		out.Store(w, v)
	}
	return out
}

// P9.2: the errors of the arena: each of the words that Look needs.
func TestLookArena(t *testing.T) {
	g := example(t)
	g.set(2, 2<<24+6<<32, 6, 4, 8, 1, 12, 6, 14, 2, 20, 3)
	g.looks(nil, -1, -1, -1, 0, api.Waiter{Thread: 0, Mode: s}, api.Waiter{Thread: 1, Mode: u}, api.Waiter{Thread: 2, Mode: x})
	for words := 1; words < 21; words++ {
		if l, e := Look(smaller(t, g.m, words), g.n, 0); e != api.ErrRange || !same(l, api.Latch{}) {
			t.Error(words, l, e)
		}
	}
	o, e := mem.NewOnce(g.m)
	if e != api.OK {
		t.Fatal(e)
	}
	if l, e := Look(o, g.n, 0); e != api.ErrBusy || !same(l, api.Latch{}) {
		t.Error(l, e)
	}
	for _, e := range []api.Errno{api.ErrNil, api.ErrRange, 99, -1} {
		if l, f := Look(&failing{Mem: g.m, e: e}, g.n, 0); f != e || !same(l, api.Latch{}) {
			t.Error(l, f)
		}
	}
}

// P9.2: nil Nodes and a nil Memory come before where the latch is.
func TestLookNil(t *testing.T) {
	g := example(t)
	for _, at := range []int{0, 3, -1} {
		for i := range 3 {
			n, m := g.n, api.Memory(g.m)
			if i < 2 {
				m = nil
			}
			if i > 0 {
				n = nil
			}
			if l, e := Look(m, n, at); e != api.ErrNil || !same(l, api.Latch{}) {
				t.Error(at, i, l, e)
			}
		}
		if l, e := Look(g.m, &qnode.Nodes{}, at); e != api.ErrNil || !same(l, api.Latch{}) {
			t.Error(at, l, e)
		}
	}
}

// P9.2: Look changes no word.
func TestLookOnly(t *testing.T) {
	somewhere(t, func(g ground, p *Move) {
		was := g.m.Copy()
		Look(g.m, g.n, g.at)
		if !g.m.Same(was) {
			t.Error("changed")
		}
	})
}

// wrong are words of a latch that say nothing, or name a thread or a node that there is not, for three threads.
func wrong() [][2]uint64 {
	return [][2]uint64{
		{0, 1 << 48}, {0, 1 << 63}, {0, math.MaxUint64}, {math.MaxUint64, 0}, {8, 0}, {8, 1 << 40}, {1 << 63, 0},
		{0, 4}, {0, 64}, {0, 65}, {0, 255}, {0, 4 << 8}, {0, 255 << 8}, {0, 1 << 16}, {0, 4<<16 + 4}, {0, 2 + 1<<16},
		{0, 1<<24 + 1<<32}, {0, 2 << 24}, {0, 2 << 32}, {0, 2<<24 + 3<<32}, {0, 8<<24 + 8<<32}, {0, 2<<24 + 8<<32}, {0, 8<<24 + 2<<32}, {0, 128<<24 + 128<<32},
		{0, 1 << 40}, {1, 5 << 40}, {1, 255 << 40}, {0, 1 + 2<<8}, {1, 2 << 8}, {1, 1}, {1, 1 << 8},
	}
}

// P9.2, P9.4: words that say nothing are an error of the step that loads the state; a program goes on when they say something again.
func TestMalformed(t *testing.T) {
	for _, w := range wrong() {
		g := example(t)
		g.set(1, w[0], 2, w[1])
		if l, e := Look(g.m, g.n, 0); e != api.ErrMalformed || !same(l, api.Latch{}) {
			t.Error(w, l, e)
		}
		for _, p := range g.all(1) {
			g.set(0, 0)
			for range 4 {
				g.step(p)
			}
			was := g.m.Copy()
			wantError(t, p, g.m, api.ErrMalformed)
			wantError(t, p.Copy().(*Move), g.m, api.ErrMalformed)
			wantError(t, p, nil, api.ErrNil)
			wantError(t, p, &failing{Mem: g.m, e: api.ErrRange}, api.ErrRange)
			if !g.m.Same(was) {
				t.Error("a word has changed")
			}
		}
	}
	g := example(t)
	g.set(2, 4)
	p := g.acquire(0, u)
	for range 4 {
		g.step(p)
	}
	wantError(t, p, g.m, api.ErrMalformed)
	g.set(2, 0)
	g.ends(p, 1)
}

// P9.2, P9.4: who waits has no mode: the step that loads it has an error.
func TestNoMode(t *testing.T) {
	for _, v := range []uint64{0, 4, 5, 255, 256, 257, 1<<32 + 1, 1<<63 + 1, math.MaxUint64} {
		g := example(t)
		g.set(2, 1<<8+4<<24+6<<32, 12, 6, 14, v, 20, 1)
		if l, e := Look(g.m, g.n, 0); e != api.ErrMalformed || !same(l, api.Latch{}) {
			t.Error(v, l, e)
		}
		for _, p := range []*Move{g.release(0), g.move(0, u), g.move(0, s)} {
			g.set(0, 0)
			for range 5 {
				g.step(p)
			}
			wantError(t, p, g.m, api.ErrMalformed)
		}
		g.set(14, 1, 20, v, 0, 0)
		if l, e := Look(g.m, g.n, 0); e != api.ErrMalformed || !same(l, api.Latch{}) {
			t.Error(v, l, e)
		}
		p := g.release(0)
		for range 7 {
			g.step(p)
		}
		wantError(t, p, g.m, api.ErrMalformed)
		g.want(1, 0, 2, 1<<8+4<<24+6<<32)
		g.set(20, 1)
		g.ends(p, 1)
		g.looks([]int{1, 2}, -1, -1, -1, 2)
	}
}

// P9.2, P9.4: the word next of who waits, and is not the last one, refers to no node of the kind Latch; that of the last one is not looked at.
func TestNoNext(t *testing.T) {
	for _, v := range []uint64{0, 1, 3, 5, 7, 8, 128, 1<<32 + 2, 1<<63 + 2, math.MaxUint64} {
		g := example(t)
		g.set(2, 1<<8+4<<24+6<<32, 12, v, 14, 1, 20, 1)
		if l, e := Look(g.m, g.n, 0); e != api.ErrMalformed || !same(l, api.Latch{}) {
			t.Error(v, l, e)
		}
		p := g.release(0)
		for range 6 {
			g.step(p)
		}
		wantError(t, p, g.m, api.ErrMalformed)
		g.want(1, 0, 2, 1<<8+4<<24+6<<32)
		g.set(12, 6, 18, v)
		g.looks(nil, -1, 0, -1, 0, api.Waiter{Thread: 1, Mode: s}, api.Waiter{Thread: 2, Mode: s})
		g.ends(p, 1)
		g.want(18, v)
	}
}

// P9.2, P1: a queue that never comes to its last one has more than there are threads; each step of who hands on in it ends.
func TestRound(t *testing.T) {
	g := example(t)
	g.set(2, 1<<8+4<<24+6<<32, 12, 2, 14, 1, 6, 4, 8, 1)
	if l, e := Look(g.m, g.n, 0); e != api.ErrMalformed || !same(l, api.Latch{}) {
		t.Error(l, e)
	}
	g.set(12, 4)
	if l, e := Look(g.m, g.n, 0); e != api.ErrMalformed || !same(l, api.Latch{}) {
		t.Error(l, e)
	}
	p := g.release(0)
	for range 500 {
		g.step(p)
	}
	g.set(12, 6, 20, 2)
	for many := 0; !p.Done(); many++ {
		if waits, e := p.Step(g.m); waits || e != api.OK || many > 500 {
			t.Fatal(many, waits, e)
		}
	}
	g.looks([]int{1}, 2, -1, -1, 1)
}

// P9.4: the errors of the guard's steps: what it refers to is no node.
func TestGuardMalformed(t *testing.T) {
	for _, ref := range []uint64{7, 99, 1 << 32, math.MaxUint64} {
		g := example(t)
		g.set(0, ref)
		p := g.acquire(0, s)
		for range 3 {
			g.step(p)
		}
		wantError(t, p, g.m, api.ErrMalformed)
		g = example(t)
		p = g.acquire(0, s)
		for range 7 {
			g.step(p)
		}
		g.set(3, ref)
		g.step(p)
		wantError(t, p, g.m, api.ErrMalformed)
	}
}

// P9.4: a program that has ended makes no further step, and no access.
func TestEnd(t *testing.T) {
	g := example(t)
	p, q := g.acquire(0, s), g.move(1, s)
	g.ends(p, 1)
	g.ends(q, 0)
	for i, r := range []*Move{p, q, p.Copy().(*Move), q.Copy().(*Move)} {
		for _, e := range []api.Errno{api.OK, api.ErrRange} {
			f := &failing{Mem: g.m, e: e}
			wantError(t, r, f, api.ErrEnd)
			if f.made != 0 || !r.Done() || r.Result() != uint64(1-i%2) {
				t.Error(f.made, r.Done(), r.Result())
			}
		}
		wantError(t, r, nil, api.ErrNil)
	}
}
