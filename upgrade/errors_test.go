package upgrade

import (
	"testing"

	"ticketline/api"
	"ticketline/latch"
	"ticketline/mem"
	"ticketline/qnode"
)

// none are programs that are nil, or whose Copy is nil, or panics.
func none() []api.Program {
	return []api.Program{nil, (*latch.Move)(nil), &latch.Move{}, (*Decide)(nil), &Decide{}, &hidden{}, (*hidden)(nil), (*reader)(nil), &barren{}}
}

// barren is a program that has no copy.
type barren struct{ reader }

func (b *barren) Copy() api.Program { return nil }

// P10.2: nil Nodes and programs come before a latch, or a thread, that is not allowed.
func TestDecideErrors(t *testing.T) {
	g := made(t, 3)
	fine := &reader{word: 3, times: 1}
	want := func(n *qnode.Nodes, at, thread int, look, change api.Program, want api.Errno) {
		t.Helper()
		if d, e := NewDecide(n, at, thread, look, change); e != want || (d == nil) != (want != api.OK) {
			t.Error(at, thread, d, e, "and not", want)
		}
	}
	for _, thread := range []int{0, 1, 2} {
		for _, at := range []int{0, 1, 22, 23, 1000, api.MaxWords - 3} {
			want(g.n, at, thread, fine, fine, api.OK)
		}
	}
	for _, at := range append(far(), 0, 2, 3, 4, 21, 1000) {
		for _, thread := range append(far(), 0, 2, 3) {
			_, e := latch.NewAcquire(g.n, at, thread, u)
			want(g.n, at, thread, fine, fine, e)
			for _, n := range []*qnode.Nodes{nil, {}} {
				want(n, at, thread, fine, fine, api.ErrNil)
				want(n, at, thread, nil, nil, api.ErrNil)
			}
		}
	}
	for _, p := range none() {
		for _, at := range []int{0, 4, -1} {
			for _, thread := range []int{0, 3} {
				want(g.n, at, thread, p, fine, api.ErrNil)
				want(g.n, at, thread, fine, p, api.ErrNil)
				want(g.n, at, thread, p, p, api.ErrNil)
			}
		}
	}
	want(g.n, 2, 0, fine, fine, api.ErrArg)
	want(g.n, 0, 3, fine, fine, api.ErrArg)
	want(g.n, 0, -1, fine, fine, api.ErrArg)
}

// P10.3: nil and zero programs.
func TestNone(t *testing.T) {
	g := made(t, 2)
	was := g.m.Copy()
	var nothing *Decide
	for i, d := range []*Decide{nothing, {}} {
		for _, m := range []api.Memory{nil, g.m} {
			if waits, e := d.Step(m); waits || e != api.ErrNil {
				t.Error(i, waits, e)
			}
		}
		if !d.Done() || d.Result() != 0 || d.Copy() != nil {
			t.Error(i, d.Done(), d.Result(), d.Copy())
		}
	}
	if !g.m.Same(was) {
		t.Error("a word has changed")
	}
}

// wantError checks that a step has an error, again and again, and that the decision stays as it is.
func wantError(t *testing.T, d *Decide, m api.Memory, want api.Errno) {
	t.Helper()
	was, done, result := dump(d), d.Done(), d.Result()
	for range 2 {
		if waits, e := d.Step(m); waits || e != want {
			t.Error(d.now, waits, e, "and not", want)
		}
	}
	if dump(d) != was || d.Done() != done || d.Result() != result {
		t.Error(d.now, "changed by an error")
	}
}

// failing is an arena whose accesses have an error, with some other results; it counts them.
type failing struct {
	*mem.Mem
	e    api.Errno
	made int
}

func (f *failing) Load(int) (uint64, api.Errno)              { f.made++; return 1, f.e }
func (f *failing) Store(int, uint64) api.Errno               { f.made++; return f.e }
func (f *failing) CAS(int, uint64, uint64) (bool, api.Errno) { f.made++; return true, f.e }
func (f *failing) Swap(int, uint64) (uint64, api.Errno)      { f.made++; return 1, f.e }

// P10.3: the errors of a step, at each of them: a nil Memory, the end, and those of the arena, of which the program that runs makes one access.
func TestStepErrors(t *testing.T) {
	everywhere(t, func(g ground, d *Decide) {
		was := g.m.Copy()
		wantError(t, d, nil, api.ErrNil)
		for _, e := range []api.Errno{api.ErrNil, api.ErrRange, api.ErrBusy, api.ErrEnd, 99, -1} {
			f, want, made := &failing{Mem: g.m, e: e}, e, 2
			if d.Done() {
				want, made = api.ErrEnd, 0
			}
			if wantError(t, d, f, want); f.made != made {
				t.Error(d.now, f.made, "accesses")
			}
		}
		for _, m := range []api.Memory{(*mem.Mem)(nil), &mem.Once{}, struct{ api.Memory }{}, (*failing)(nil)} {
			if d.Done() {
				wantError(t, d, m, api.ErrEnd)
			} else {
				wantError(t, d, m, api.ErrNil)
			}
		}
		if !g.m.Same(was) {
			t.Error("a word has changed")
		}
	})
}

// P10.3: words that say nothing are an error of each move.
func TestMalformed(t *testing.T) {
	seen := map[part]bool{}
	everywhere(t, func(g ground, d *Decide) {
		if d.Done() || !d.moves() {
			return
		}
		g.m.Store(2, 1<<63)
		for now := d.now; d.now == now; {
			waits, e := d.Step(g.m)
			if waits {
				return // it was loaded before
			}
			if e != api.OK {
				was := g.m.Copy()
				if wantError(t, d, g.m, api.ErrMalformed); !g.m.Same(was) {
					t.Error("a word has changed")
				}
				seen[now] = true
				return
			}
		}
	})
	if !seen[getting] || !seen[raising] || !seen[givingBack] {
		t.Error(seen)
	}
}

// mood is what programs do that share it: how they fail, and with which error.
type mood struct {
	fails string
	e     api.Errno
}

// moody is a program of some steps that fails when its mood says so; a step that fails changes it before.
type moody struct {
	mood   *mood
	steps  int
	result uint64
}

func (p *moody) fail(how string) {
	if p.mood.fails == how {
		panic(how)
	}
}

func (p *moody) Step(api.Memory) (bool, api.Errno) {
	p.steps--
	p.fail("step")
	if p.mood.e != api.OK {
		return true, p.mood.e
	}
	return false, api.OK
}
func (p *moody) Done() bool     { p.fail("done"); return p.steps == 0 }
func (p *moody) Result() uint64 { p.fail("result"); return p.result }
func (p *moody) Copy() api.Program {
	p.fail("copy")
	if p.mood.fails == "barren" {
		return nil
	}
	c := *p
	return &c
}

// moodily calls a function with a decision whose programs are moody, from each of its steps on, each time on a ground of its own; runs says whether this is a step of one of these.
func moodily(t *testing.T, f func(g ground, d *Decide, m *mood, at int, runs bool)) {
	t.Helper()
	for at := range moodySteps + 1 {
		g, m := made(t, 1), &mood{}
		d := g.decide(0, &moody{m, 2, 5}, &moody{m, 3, 8})
		for range at {
			g.step(d)
		}
		f(g, d, m, at, at >= 8 && at < 8+2 || at >= 8+2+8 && at < 8+2+8+3)
		*m = mood{}
		if d.Done() != (at == moodySteps) {
			t.Fatal(at, d.Done())
		}
		if l := g.ends(d, 8); len(l) != moodySteps-at {
			t.Error(at, len(l), "steps are left")
		}
		g.wantLatch(0, nobody())
	}
}

// moodySteps is how many steps a decision of moody programs has.
const moodySteps = 8 + 2 + 8 + 3 + 8

// P10.3: an error of the program that runs is that of the step, which has changed nothing, and has not waited, whatever the program says and does; it goes on when the error is over.
func TestProgramErrors(t *testing.T) {
	moodily(t, func(g ground, d *Decide, m *mood, at int, runs bool) {
		was := g.m.Copy()
		for _, e := range []api.Errno{api.ErrWait, api.ErrEnd, api.ErrNil, 99, -1} {
			m.e = e
			if runs {
				wantError(t, d, g.m, e)
				wantError(t, d.Copy().(*Decide), g.m, e)
			}
		}
		if !g.m.Same(was) {
			t.Error(at, "a word has changed")
		}
	})
}

// P10.3: decisions in decisions: an error of the innermost program is that of all of them, and changes none.
func TestNested(t *testing.T) {
	const depth = 30
	g, m := made(t, 1), &mood{}
	big, e := mem.New(10 + depth*latch.Words)
	if e != api.OK {
		t.Fatal(e)
	}
	g.m = big
	var d api.Program = &moody{m, 3, 5}
	for i := range depth {
		if d, e = NewDecide(g.n, 10+i*latch.Words, 0, d, &adder{word: 3}); e != api.OK {
			t.Fatal(e)
		}
	}
	for range 8*depth + 1 {
		g.step(d)
	}
	for i := range depth {
		g.wantLatch(10+i*latch.Words, api.Latch{Update: 0, Exclusive: -1, Wants: -1})
	}
	m.e = 99
	wantError(t, d.(*Decide), g.m, 99)
	*m = mood{fails: "step"}
	wantError(t, d.(*Decide), g.m, api.ErrNil)
	*m = mood{}
	if l := g.ends(d, added); len(l) != 2+depth*(8+2+8) {
		t.Error(len(l))
	}
	for i := range depth {
		g.wantLatch(10+i*latch.Words, nobody())
	}
	if v, e := g.m.Load(3); v != depth || e != api.OK {
		t.Error(v, e)
	}
}

// P1: a program that panics, or has no copy any more, is as none: no call panics, and a step changes nothing then.
func TestPanics(t *testing.T) {
	moodily(t, func(g ground, d *Decide, m *mood, at int, runs bool) {
		was := g.m.Copy()
		for _, fails := range []string{"step", "done", "result", "copy", "barren"} {
			m.fails = fails
			inside := dump(d)
			c := d.Copy()
			lives := fails != "copy" && fails != "barren" || at >= 8+2+8+3+1 // nothing of theirs is to be copied then
			if (c == nil) == lives {
				t.Error(at, fails, c)
			}
			asked := at == 8+2 || at == 8+2+8+3 // the first step behind a program
			if runs && fails != "result" || asked && (fails == "done" || fails == "result") {
				wantError(t, d, g.m, api.ErrNil)
			}
			if dump(d) != inside || !g.m.Same(was) {
				t.Error(at, fails, "changed")
			}
			if d.Done() != (at == moodySteps) || d.Result() != 0 && !d.Done() {
				t.Error(at, fails, d.Done(), d.Result())
			}
		}
	})
}

// P1: a decision can be made of programs that fail, if they have copies.
func TestPanicsAtFirst(t *testing.T) {
	for _, fails := range []string{"step", "done", "result", "copy", "barren"} {
		g, m := made(t, 1), &mood{fails: fails}
		want := api.OK
		if fails == "copy" || fails == "barren" {
			want = api.ErrNil
		}
		if d, e := NewDecide(g.n, 0, 0, &moody{m, 1, 1}, &moody{m, 1, 1}); e != want || (d == nil) != (e != api.OK) {
			t.Error(fails, d, e)
		}
	}
}

// P1: no call panics, whatever the arguments and the words are; a step with an error, or that waits, changes nothing.
func FuzzCalls(f *testing.F) {
	f.Add(4, 3, 0, 0, 1, uint64(0), uint64(0), uint64(0), uint64(1))
	f.Add(4, 3, 0, 1, 2, uint64(4), uint64(1<<40), uint64(0), uint64(1))
	f.Add(4, 3, 0, 2, 3, uint64(0), uint64(3<<8+2<<24+4<<32), uint64(4), uint64(0))
	f.Add(0, 64, 400, 63, 3, uint64(1<<63), uint64(64+4<<40), uint64(0), uint64(2))
	f.Add(-1, 0, -1, -1, 0, uint64(0), uint64(1<<48), uint64(0), uint64(0))
	f.Add(65530, 1, 65527, 0, 3, uint64(0), uint64(1+1<<16), uint64(9), uint64(9))
	f.Fuzz(func(t *testing.T, base, threads, at, thread, mode int, bits, state, next, result uint64) {
		n, _ := qnode.New(base, threads)
		wantMoves(t, n, at, thread, api.Mode(mode))
		d, e := NewDecide(n, at, thread, &reader{word: 499, times: mode & 3, result: result}, &adder{word: 499})
		_, f := latch.NewAcquire(n, at, thread, u)
		if e != f || (d == nil) != (e != api.OK) {
			t.Fatal(d, e, f)
		}
		if e != api.OK {
			return
		}
		m, _ := mem.New(500)
		m.Store(at+1, bits)
		m.Store(at+2, state)
		for node := range 2 * threads {
			m.Store(n.Next(node), next)
			m.Store(n.Mode(node), next)
		}
		for i := range 100 {
			done, inside, was := d.Done(), dump(d), m.Copy()
			waits, e := d.Step(m)
			if done != (e == api.ErrEnd) || e != api.OK && waits || !d.Done() && d.Result() != 0 {
				t.Fatal(i, done, waits, e, d.Result())
			}
			if (waits || e != api.OK) && (dump(d) != inside || !m.Same(was)) {
				t.Fatal(i, waits, e)
			}
		}
	})
}
