package upgrade

import (
	"iter"
	"math"
	"math/rand"
	"slices"
	"testing"

	"ticketline/api"
	"ticketline/latch"
	"ticketline/qnode"
)

// Programs to look and to change: what they do with a word tells whether somebody came in between.

// reader loads a word some times, with an error as soon as it is not what it was the first time, and ends with a result.
type reader struct {
	word, times, made int
	was, result       uint64
}

func (r *reader) Step(m api.Memory) (bool, api.Errno) {
	v, e := m.Load(r.word)
	if e != api.OK {
		return false, e
	}
	if r.made > 0 && v != r.was {
		return false, api.ErrCheck
	}
	r.made++
	r.was = v
	return false, api.OK
}
func (r *reader) Done() bool        { return r.made == r.times }
func (r *reader) Result() uint64    { return r.result }
func (r *reader) Copy() api.Program { c := *r; return &c }

// adder loads a word, and stores what is one more, if it has not ended from the first; its result is a number that is not 0.
type adder struct {
	word, made int
	was        uint64
}

const added = 77

func (a *adder) Step(m api.Memory) (bool, api.Errno) {
	if a.made == 1 {
		e := m.Store(a.word, a.was+1)
		if e == api.OK {
			a.made++
		}
		return false, e
	}
	v, e := m.Load(a.word)
	if e == api.OK {
		a.was, a.made = v, 1
	}
	return false, e
}
func (a *adder) Done() bool        { return a.made == 2 }
func (a *adder) Result() uint64    { return added }
func (a *adder) Copy() api.Program { c := *a; return &c }

// sleeper waits for some steps without an access, then ends with a result; it may have ended already.
type sleeper struct {
	waits  int
	result uint64
}

func (s *sleeper) Step(api.Memory) (bool, api.Errno) { s.waits--; return true, api.OK }
func (s *sleeper) Done() bool                        { return s.waits == 0 }
func (s *sleeper) Result() uint64                    { return s.result }
func (s *sleeper) Copy() api.Program                 { c := *s; return &c }

// did is what a step has done.
type did struct {
	waits bool
	a     api.Access
}

// literally runs the programs of a decision as the chapter lists them, and returns what their steps do; the result is there at the end.
func (g ground) literally(thread int, look, change api.Program, result *uint64) iter.Seq[did] {
	return func(yield func(did) bool) {
		run := func(p api.Program) bool {
			for !p.Done() {
				waits, a := g.part(p)
				if !yield(did{waits, a}) {
					return false
				}
			}
			return true
		}
		get, raise, back := g.acquire(0, thread, u), g.move(latch.NewMove(g.n, 0, thread, x)), g.release(0, thread)
		if !run(get) || get.Result() == 0 || !run(look) {
			return
		}
		*result = look.Result()
		if look.Result() != 0 {
			if !run(raise) || !run(change) {
				return
			}
			*result = change.Result()
		}
		run(back)
	}
}

// part makes a step of a part, which may have a result before its end.
func (g ground) part(p api.Program) (bool, api.Access) {
	g.Helper()
	return g.step(&hidden{p})
}

// hidden is a program whose result is not seen.
type hidden struct{ api.Program }

func (h *hidden) Result() uint64 { return 0 }

// same checks that a decision, alone on its ground, does what the parts do, step by step.
func (g ground) same(thread int, look, change api.Program) {
	g.Helper()
	d, h := g.decide(thread, look, change), g.copied()
	var result uint64
	n := 0
	for want := range h.literally(thread, look.Copy(), change.Copy(), &result) {
		if d.Done() {
			g.Fatal("ends too early", n)
		}
		waits, a := g.step(d)
		if waits != want.waits || a != want.a || !g.m.Same(h.m) {
			g.Fatal(n, waits, a, want)
		}
		n++
	}
	if !d.Done() || d.Result() != result {
		g.Fatal(n, d.Done(), d.Result(), result)
	}
}

// programs returns programs to look and to change of all sorts, also such as have begun, and have ended, moves of another latch and of the same one, and a decision.
func (g ground) programs(thread int) []api.Program {
	begun := &adder{word: 3}
	g.part(begun)
	l := []api.Program{
		&reader{word: 3, times: 1}, &reader{word: 3, times: 2, result: math.MaxUint64}, begun, &adder{word: 3}, &adder{made: 2},
		&sleeper{}, &sleeper{result: 5}, &sleeper{waits: 3, result: 1 << 63}, &sleeper{waits: 1},
		g.acquire(g.other(), thread, s), g.acquire(g.other(), thread, x), g.release(g.other(), thread),
		g.release(0, thread), g.move(NewRaise(g.n, 0, thread)), g.move(NewLower(g.n, 0, thread, s)), g.acquire(0, thread, x),
	}
	inner, e := NewDecide(g.n, g.other(), thread, &reader{word: 3, times: 2, result: 1}, &adder{word: 3})
	if e != api.OK {
		g.Fatal(e)
	}
	return append(l, inner)
}

// P10.3: a decision runs the programs of the chapter one after the other, whatever these are: each step is one of theirs.
func TestLikeParts(t *testing.T) {
	for _, threads := range []int{1, 2, 64} {
		for thread := range threads {
			if thread > 1 && thread < threads-2 {
				continue
			}
			g := made(t, threads)
			for i, look := range g.programs(thread) {
				for j := range g.programs(thread) {
					h := g.copied()
					h.same(thread, look, h.programs(thread)[j])
					for _, mode := range []api.Mode{s, u, x} { // who holds it already is refused
						h = g.copied()
						h.ends(h.acquire(0, thread, mode), 1)
						was := h.looks(0)
						h.same(thread, look, h.programs(thread)[j])
						h.wantLatch(0, was)
					}
					if t.Failed() {
						t.Fatal(threads, thread, i, j)
					}
				}
			}
		}
	}
}

// follower is a decision on one ground, and the parts of the same one on another ground.
type follower struct {
	d      *Decide
	next   func() (did, bool)
	result uint64
}

// P10.3: the same holds while others run moves and decisions for the latch.
func TestLikePartsAmongOthers(t *testing.T) {
	r := rand.New(rand.NewSource(103))
	for range 200 {
		g := made(t, 2+r.Intn(4))
		h := g.copied()
		players := make([]follower, g.n.Threads())
		for i := range players {
			look, change := api.Program(&reader{word: 3, times: 1 + r.Intn(3), result: uint64(r.Intn(3))}), api.Program(&adder{word: 3})
			if r.Intn(4) == 0 {
				look = g.programs(i)[r.Intn(6)]
			}
			p := &players[i]
			p.d = g.decide(i, look, change)
			next, stop := iter.Pull(h.literally(i, look.Copy(), change.Copy(), &p.result))
			defer stop()
			p.next = next
		}
		for many := 0; slices.ContainsFunc(players, func(p follower) bool { return !p.d.Done() }); many++ {
			p := &players[r.Intn(len(players))]
			if p.d.Done() {
				continue
			}
			waits, a := g.step(p.d)
			want, is := p.next()
			if !is || want != (did{waits, a}) || !g.m.Same(h.m) || many > 10000 {
				t.Fatal(many, is, waits, a, want)
			}
		}
		for i := range players {
			if _, is := players[i].next(); is || players[i].d.Result() != players[i].result {
				t.Fatal(i, is, players[i].d.Result(), players[i].result)
			}
		}
		g.wantLatch(0, nobody())
	}
}

// P10.2, P10.3: the chapter's examples.
func TestExamples(t *testing.T) {
	g := made(t, 2)
	if g.other() != 16 {
		t.Fatal(g.other())
	}
	d := g.decide(0, g.acquire(16, 0, s), g.release(16, 0))
	want := [ended]struct {
		steps      int
		one, other api.Latch // at the end of each part
	}{
		{8, api.Latch{Update: 0, Exclusive: -1, Wants: -1}, nobody()},
		{9, api.Latch{Update: 0, Exclusive: -1, Wants: -1}, api.Latch{Shared: []int{0}, Update: -1, Exclusive: -1, Wants: -1, Group: 1}},
		{8, api.Latch{Update: -1, Exclusive: 0, Wants: -1}, api.Latch{Shared: []int{0}, Update: -1, Exclusive: -1, Wants: -1, Group: 1}},
		{9, api.Latch{Update: -1, Exclusive: 0, Wants: -1}, nobody()},
		{8, nobody(), nobody()},
	}
	for i, w := range want {
		for range w.steps {
			if waits, _ := g.step(d); waits {
				t.Error(i, "waits")
			}
		}
		g.wantLatch(0, w.one)
		g.wantLatch(16, w.other)
	}
	if !d.Done() || d.Result() != 1 {
		t.Error(d.Done(), d.Result())
	}

	g = made(t, 2)
	if l := g.ends(g.decide(0, g.release(16, 0), g.acquire(16, 0, s)), 0); len(l) != 8+7+8 {
		t.Error(len(l))
	}
	g.wantLatch(0, nobody())
	g.wantLatch(16, nobody())

	g.ends(g.acquire(0, 0, s), 1)
	if l := g.ends(g.decide(0, g.acquire(16, 0, s), g.release(16, 0)), 0); len(l) != 7 {
		t.Error(len(l))
	}
	g.wantLatch(0, api.Latch{Shared: []int{0}, Update: -1, Exclusive: -1, Wants: -1, Group: 1})
	g.wantLatch(16, nobody())
}

// P10.2: programs that have ended before their first step are left out, and their results count.
func TestLeftOut(t *testing.T) {
	for i, c := range []struct {
		look, change api.Program
		steps        int
		result       uint64
	}{
		{&sleeper{result: 3}, &sleeper{result: 4}, 24, 4},
		{&sleeper{result: 3}, &sleeper{}, 24, 0},
		{&sleeper{}, &sleeper{result: 4}, 16, 0},
		{&sleeper{}, &adder{word: 3}, 16, 0},
		{&sleeper{result: 3}, &adder{word: 3}, 26, added},
		{&reader{word: 3, times: 2, result: 3}, &sleeper{result: math.MaxUint64}, 26, math.MaxUint64},
		{&reader{word: 3, times: 2}, &sleeper{result: 9}, 18, 0},
	} {
		g := made(t, 1)
		if l := g.ends(g.decide(0, c.look, c.change), c.result); len(l) != c.steps {
			t.Error(i, len(l))
		}
		g.wantLatch(0, nobody())
	}
}

// P10.2: the programs are copied as they are, the nodes too: neither changes the other afterwards.
func TestCopies(t *testing.T) {
	g := made(t, 2)
	look, change := &reader{word: 3, times: 3, result: 1}, &adder{word: 3}
	g.part(look)
	g.part(change)
	n := *g.n
	d, e := NewDecide(&n, 0, 1, look, change)
	if d == nil || e != api.OK {
		t.Fatal(e)
	}
	was := dump(d)
	look.made, change.made, n = 9, 9, qnode.Nodes{}
	if dump(d) != was {
		t.Error("changed with what it was made of")
	}
	if l := g.ends(d, added); len(l) != 8+2+8+1+8 || look.made != 9 || change.made != 9 {
		t.Error(len(l), look, change)
	}
	both := &adder{word: 3}
	if l := g.ends(g.decide(0, both, both), added); len(l) != 8+2+8+2+8 || both.made != 0 {
		t.Error(len(l), both)
	}
	if v, e := g.m.Load(3); v != 3 || e != api.OK {
		t.Error(v, e)
	}
}

// everywhere calls a function with a decision of the thread 0 at each of its steps, and at its end, each time on a ground of its own; the thread 1 holds S, or waits for it, most of the time.
func everywhere(t *testing.T, f func(g ground, d *Decide)) {
	t.Helper()
	for at, last := 0, false; !last; at++ {
		g := made(t, 2)
		g.ends(g.acquire(0, 1, s), 1)
		d := g.decide(0, &reader{word: 3, times: 2, result: 6}, &adder{word: 3})
		back, again := g.release(0, 1), g.acquire(0, 1, s)
		for range at {
			if waits, _ := g.step(d); waits && !back.Done() {
				g.ends(back, 1)
			} else if back.Done() && d.now >= changing && !again.Done() {
				g.step(again)
			}
		}
		if last = d.Done(); at > 100 {
			t.Fatal("no end")
		}
		f(g, d)
	}
}

// P10.3: a copy, from any step on, goes on independently, and likewise.
func TestCopy(t *testing.T) {
	everywhere(t, func(g ground, d *Decide) {
		c, is := d.Copy().(*Decide)
		if !is || dump(c) != dump(d) || c.Done() != d.Done() || c.Result() != d.Result() {
			t.Fatal(c, d)
		}
		h, was := g.copied(), dump(d)
		for !c.Done() {
			waits, a := h.step(c)
			if dump(d) != was {
				t.Fatal("changed by its copy")
			}
			if waits {
				break
			}
			again := d.Copy()
			if w, b := g.step(d); w || a != b || dump(d) != dump(c) || !g.m.Same(h.m) {
				t.Fatal(a, b)
			}
			if dump(again) != was {
				t.Fatal("a copy changed by the first one")
			}
			was = dump(d)
		}
	})
}

// P10.3: done, and the result, are there at the end alone; a step that waits changes no word.
func TestProgress(t *testing.T) {
	parts := map[part]bool{}
	everywhere(t, func(g ground, d *Decide) {
		parts[d.now] = true
		if d.Done() != (d.now == ended) || !d.Done() && d.Result() != 0 || d.Done() && d.Result() != added {
			t.Error(d.now, d.Done(), d.Result())
		}
		if d.Done() {
			return
		}
		was, inside := g.m.Copy(), dump(d)
		if waits, _ := g.step(d); waits && (!g.m.Same(was) || dump(d) != inside) || !waits && dump(d) == inside {
			t.Error(d.now, waits)
		}
	})
	if len(parts) != int(ended)+1 {
		t.Error(parts)
	}
}
