package latch

import (
	"math"
	"testing"

	"ticketline/api"
	"ticketline/qnode"
)

// wantNew checks what the constructors return; NewRelease knows no mode.
func wantNew(t *testing.T, n *qnode.Nodes, at, thread int, mode api.Mode, want api.Errno) {
	t.Helper()
	a, e := NewAcquire(n, at, thread, mode)
	b, f := NewMove(n, at, thread, mode)
	if e != want || f != want || (a == nil) != (want != api.OK) || (b == nil) != (want != api.OK) {
		t.Error(at, thread, mode, e, f, a, b)
	}
	if mode < s || mode > x {
		want = api.OK
	}
	if c, e := NewRelease(n, at, thread); e != want || (c == nil) != (want != api.OK) {
		t.Error(at, thread, e, c)
	}
}

// far returns numbers of neither words nor threads; some would be, if they were cut off or went round.
func far() []int {
	return []int{-1, -2, -3, api.MaxWords - 2, api.MaxWords - 1, api.MaxWords, 1 << 32, 1<<32 + 1, 1 << 62, math.MaxInt - 2, math.MaxInt - 1, math.MaxInt, math.MinInt, math.MinInt + 1}
}

// P9.3: a latch may be at any three words of an arena but those of the nodes, wherever the nodes are; Look has the same error.
func TestPlaces(t *testing.T) {
	m := arena(t, api.MaxWords)
	for _, threads := range []int{1, 2, 64} {
		for _, base := range []int{0, 1, 2, 3, 4, 500, api.MaxWords - 6*threads - 4, api.MaxWords - 6*threads - 3, api.MaxWords - 6*threads - 2, api.MaxWords - 6*threads} {
			n := nodes(t, base, threads)
			end := base + 6*threads
			for _, near := range []int{0, base, end, api.MaxWords} {
				for at := near - 6; at < near+6; at++ {
					want := api.OK
					if at < 0 || at+2 >= api.MaxWords || at+2 >= base && at < end {
						want = api.ErrArg
					}
					wantNew(t, n, at, 0, s, want)
					if l, e := Look(m, n, at); e != want || want == api.OK && !same(l, nothing()) || want != api.OK && !same(l, api.Latch{}) {
						t.Error(base, threads, at, l, e)
					}
				}
			}
			for _, at := range far() {
				wantNew(t, n, at, 0, s, api.ErrArg)
				if l, e := Look(m, n, at); e != api.ErrArg || !same(l, api.Latch{}) {
					t.Error(at, l, e)
				}
			}
		}
	}
}

// P9.3: threads that there are, and modes.
func TestNewErrors(t *testing.T) {
	for _, threads := range []int{1, 2, 63, 64} {
		n := nodes(t, 3, threads)
		for thread := range threads {
			wantNew(t, n, 0, thread, x, api.OK)
		}
		for _, thread := range append(far(), threads, threads+1, 2*threads, 64, 128) {
			wantNew(t, n, 0, thread, x, api.ErrArg)
		}
		for _, mode := range []api.Mode{api.ModeNone, 4, -1, 5, 1 << 32, 1<<32 + 1, math.MaxInt, math.MinInt, math.MinInt + 1} {
			wantNew(t, n, 0, 0, mode, api.ErrArg)
		}
	}
	for _, n := range []*qnode.Nodes{nil, {}} { // before what is wrong with the others
		for _, k := range append(far(), 0) {
			for _, e := range []func() (*Move, api.Errno){
				func() (*Move, api.Errno) { return NewAcquire(n, k, k, api.Mode(k)) },
				func() (*Move, api.Errno) { return NewRelease(n, k, k) },
				func() (*Move, api.Errno) { return NewMove(n, k, k, api.Mode(k)) },
			} {
				if p, e := e(); p != nil || e != api.ErrNil {
					t.Error(k, p, e)
				}
			}
		}
	}
}

// P9.4: each step of getting it, at once, makes the access that the chapter says.
func TestGetSteps(t *testing.T) {
	g := example(t)
	enter := func(plain int, ref uint64) []api.Access {
		return []api.Access{store(plain, 0, 0), store(plain+1, 0, 1), swap(0, 0, ref)}
	}
	leave := func(plain int, ref uint64) []api.Access {
		return []api.Access{load(plain, 0), cas(0, ref, 0)}
	}
	all := func(l ...[]api.Access) (out []api.Access) {
		for _, part := range l {
			out = append(out, part...)
		}
		return out
	}
	g.accesses(g.acquire(0, s), all(enter(3, 1), []api.Access{load(1, 0), load(2, 0), store(1, 0, 1), store(2, 0, 1<<40)}, leave(3, 1))...)
	g.accesses(g.acquire(1, u), all(enter(9, 3), []api.Access{load(1, 1), load(2, 1<<40), store(2, 1<<40, 2+1<<40)}, leave(9, 3))...)
	g.set(4, 0, 10, 0)
	// refused: nothing is stored
	g.accesses(g.acquire(1, s), all(enter(9, 3), []api.Access{load(1, 1), load(2, 2+1<<40)}, leave(9, 3))...)
	// the last S is given back: nobody is in the group
	g.accesses(g.release(0), all(enter(3, 1), []api.Access{load(1, 1), load(2, 2+1<<40), store(1, 1, 0), store(2, 2+1<<40, 2)}, leave(3, 1))...)
	g.set(10, 0)
	g.accesses(g.move(1, x), all(enter(9, 3), []api.Access{load(1, 0), load(2, 2), store(2, 2, 2<<8)}, leave(9, 3))...)
}

// P9.4: each step of who waits, and of who hands on to them.
func TestQueueSteps(t *testing.T) {
	g := example(t)
	g.set(2, 1<<8, 6, 7, 7, 8, 8, 9)
	p := g.acquire(1, u)
	g.accesses(p, store(9, 0, 0), store(10, 0, 1), swap(0, 0, 3), load(1, 0), load(2, 1<<8),
		store(14, 0, 2), store(12, 0, 0), store(13, 0, 1), store(2, 1<<8, 1<<8+4<<24+4<<32), load(9, 0), cas(0, 3, 0), load(13, 1))
	q := g.acquire(2, s)
	w := uint64(1<<8 + 4<<24)
	g.accesses(q, store(15, 0, 0), store(16, 0, 1), swap(0, 0, 5), load(1, 0), load(2, w+4<<32),
		store(20, 0, 1), store(18, 0, 0), store(19, 0, 1), store(12, 0, 6), store(2, w+4<<32, w+6<<32), load(15, 0), cas(0, 5, 0), load(19, 1))
	g.accesses(p, load(13, 1))
	g.accesses(g.release(0), store(3, 0, 0), store(4, 0, 1), swap(0, 0, 1), load(1, 0), load(2, w+6<<32),
		load(14, 2), load(12, 6), load(20, 1), store(1, 0, 4), store(2, w+6<<32, 2+1<<40), store(13, 1, 0), store(19, 1, 0), load(3, 0), cas(0, 1, 0))
	g.accesses(q, load(19, 0))
	g.accesses(p, load(13, 0))
	g.want(6, 7, 7, 8, 8, 9)
}

// P9.4: each step of who goes from U to X, and of who lets it go on.
func TestWantsSteps(t *testing.T) {
	g := example(t)
	g.set(1, 5, 2, 2+2<<40)
	p := g.move(1, x)
	g.accesses(p, store(9, 0, 0), store(10, 0, 1), swap(0, 0, 3), load(1, 5), load(2, 2+2<<40),
		store(13, 0, 1), store(2, 2+2<<40, 2+2<<16+2<<40), load(9, 0), cas(0, 3, 0), load(13, 1))
	g.accesses(g.release(0), store(3, 0, 0), store(4, 0, 1), swap(0, 0, 1), load(1, 5), load(2, 2+2<<16+2<<40),
		store(1, 5, 4), load(3, 0), cas(0, 1, 0)) // the group is what it was
	g.accesses(g.release(2), store(15, 0, 0), store(16, 0, 1), swap(0, 0, 5), load(1, 4), load(2, 2+2<<16+2<<40),
		store(1, 4, 0), store(2, 2+2<<16+2<<40, 2<<8), store(13, 1, 0), load(15, 0), cas(0, 5, 0))
	g.accesses(p, load(13, 0))
	g.want(12, 0, 14, 0) // it has no place in the queue
}

// P9.4: whoever waits for the guard waits as in layer 8, and the one that has it goes on.
func TestGuard(t *testing.T) {
	g := example(t)
	p, q := g.acquire(0, x), g.acquire(1, s)
	for range 4 {
		g.step(p)
	}
	g.parks(q)
	g.want(0, 3, 3, 3, 10, 1)
	if many := g.ends(p, 1); many != 4 {
		t.Error(many)
	}
	g.parks(q)
	g.looks(nil, -1, 0, -1, 0, api.Waiter{Thread: 1, Mode: s})
	r := g.release(0)
	for range 6 {
		g.step(r)
	}
	late := g.acquire(2, u)
	for range 3 { // it has swapped, and is not linked yet
		g.step(late)
	}
	g.parks(r)
	g.want(0, 5, 3, 0)
	g.ends(q, 1)
	if waits, a := g.step(late); waits || a != store(3, 0, 5) {
		t.Error(waits, a)
	}
	g.ends(r, 1)
	g.ends(late, 1)
	g.looks([]int{1}, 2, -1, -1, 1)
}

// P9.4: what is given at once, and what is not, for all that may be held.
func TestGetAtOnce(t *testing.T) {
	for _, c := range []struct {
		bits, state uint64
		goes        []api.Mode
	}{
		{0, 0, []api.Mode{s, u, x}},
		{1, 1 << 40, []api.Mode{s, u}},
		{1, 0, []api.Mode{s, u}},
		{3, 4 << 40, []api.Mode{s, u}}, // nobody waits, so the group may be full
		{0, 1, []api.Mode{s}},
		{2, 1 + 4<<40, []api.Mode{s}},
		{2, 1 + 1<<16 + 1<<40, nil}, // one waits for X
		{0, 1 + 1<<16, nil},
		{0, 1 << 8, nil},
		{0, 2<<24 + 2<<32, nil}, // somebody waits, for what nobody keeps from it
		{1, 4<<24 + 2<<32 + 1<<40, nil},
	} {
		for _, mode := range []api.Mode{s, u, x} {
			g := example(t)
			g.set(1, c.bits, 2, c.state)
			p := g.acquire(2, mode)
			goes := false
			for _, m := range c.goes {
				goes = goes || m == mode
			}
			if !goes {
				g.parks(p)
				continue
			}
			g.ends(p, 1)
			l, e := Look(g.m, g.n, g.at)
			if is := (mode == s && len(l.Shared) > 0 && l.Shared[len(l.Shared)-1] == 2 || mode == u && l.Update == 2 || mode == x && l.Exclusive == 2); !is || e != api.OK {
				t.Error(c, mode, l, e)
			}
		}
	}
}

// P9.4: the group counts up to Batch, and ends when nobody holds S, also in between.
func TestGroup(t *testing.T) {
	g := ground{t, arena(t, 63), nodes(t, 3, 10), 0}
	var shared []int
	for i := range 7 {
		g.ends(g.acquire(i, s), 1)
		shared = append(shared, i)
		g.looks(shared, -1, -1, -1, min(i+1, 4))
	}
	g.ends(g.acquire(7, u), 1)
	for i := range 7 {
		g.looks(shared[i:], 7, -1, -1, 4)
		g.ends(g.release(i), 1)
	}
	g.looks(nil, 7, -1, -1, 0)
	g.ends(g.move(7, s), 1)
	g.looks([]int{7}, -1, -1, -1, 1)
	g.ends(g.acquire(8, u), 1)
	g.ends(g.move(8, s), 1)
	g.looks([]int{7, 8}, -1, -1, -1, 2)
	for range 5 {
		g.ends(g.acquire(9, u), 1)
		g.ends(g.move(9, s), 1)
		g.ends(g.release(9), 1)
	}
	g.looks([]int{7, 8}, -1, -1, -1, 4)
}

// P9.4: a thread that alone holds S, and is given S, as it cannot come about by moves alone, makes a new group.
func TestGroupAgain(t *testing.T) {
	g := example(t)
	g.set(1, 1, 2, 2+2<<24+2<<32+3<<40, 8, 1) // 0 holds S, and waits for S; 1 holds U
	g.ends(g.release(1), 1)
	g.looks([]int{0}, -1, -1, -1, 1)
	g.want(7, 0)
}

// P9.4: it is handed on to as many as it may be given to, one after the other, in the order in which they wait.
func TestHandOn(t *testing.T) {
	for _, c := range []struct {
		queue  string // for what 1, 2, .. wait, while 0 holds X
		served int
	}{
		{"s", 1}, {"u", 1}, {"x", 1}, {"sss", 3}, {"ssss", 4}, {"sssss", 5}, {"ssssss", 4}, {"usss", 4}, {"ussss", 5}, {"susx", 3}, {"ssssu", 5}, {"sssus", 5}, {"sssuss", 6}, {"sssusss", 5}, {"uu", 1}, {"suu", 2}, {"sxs", 1}, {"xs", 1}, {"usssss", 6}, {"ussssss", 5}, {"sssx", 3}, {"ssssx", 4},
	} {
		g := ground{t, arena(t, 3+9*6), nodes(t, 3, 9), 0}
		g.ends(g.acquire(0, x), 1)
		var l []*Move
		for i, letter := range c.queue {
			l = append(l, g.parks(g.acquire(i+1, byLetter(letter))))
		}
		before, e := Look(g.m, g.n, g.at)
		if e != api.OK || len(before.Queue) != len(c.queue) {
			t.Fatal(before, e)
		}
		g.ends(g.release(0), 1)
		after, e := Look(g.m, g.n, g.at)
		if e != api.OK || !same(api.Latch{Queue: after.Queue}, api.Latch{Queue: before.Queue[c.served:]}) {
			t.Error(c, after, e)
		}
		for i, p := range l {
			if i < c.served {
				if g.ends(p, 1) != 1 {
					t.Error(c, i)
				}
			} else if waits, _ := g.step(p); !waits {
				t.Error(c, i)
			}
		}
	}
}

// byLetter returns the mode that a letter stands for.
func byLetter(c rune) api.Mode {
	return map[rune]api.Mode{'s': s, 'u': u, 'x': x}[c]
}

// P9.4: what is refused, and that it changes nothing.
func TestRefused(t *testing.T) {
	for _, c := range []struct {
		bits, state uint64
		allowed     string // of 0: + gives back, and to which modes it may go
	}{
		{0, 0, ""},
		{1, 1 << 40, "+"},
		{2, 1 << 40, ""},
		{0, 2, ""},
		{0, 2 << 8, ""},
		{0, 1, "+sx"},
		{2, 1 + 1<<40, "+sx"},
		{2, 1 + 1<<16 + 1<<40, ""},
		{0, 1 + 1<<16, ""},
		{0, 1 << 8, "+su"},
		{0, 2<<24 + 2<<32, ""}, // it waits, and does not hold it
	} {
		g := example(t)
		g.set(1, c.bits, 2, c.state)
		allowed := map[rune]bool{}
		for _, letter := range c.allowed {
			allowed[letter] = true
		}
		refused := func(p *Move) {
			g.m = example(t).m
			g.set(1, c.bits, 2, c.state, 8, 3, 14, 3)
			if many := g.ends(p, 0); many != 7 {
				t.Error(c, many)
			}
			g.want(1, c.bits, 2, c.state, 6, 0, 7, 0, 8, 3, 12, 0, 13, 0, 14, 3)
		}
		if !allowed['+'] {
			refused(g.release(0))
		}
		for _, letter := range "sux" {
			if !allowed[letter] {
				refused(g.move(0, byLetter(letter)))
			}
			if c.allowed != "" || c.state>>16&255 == 1 {
				refused(g.acquire(0, byLetter(letter)))
			}
		}
	}
}

// P9.4: whoever waits for X lets nobody else go in, and goes before all who wait already.
func TestWantsGoesFirst(t *testing.T) {
	g := example(t)
	g.ends(g.acquire(0, u), 1)
	g.ends(g.acquire(1, s), 1)
	q := g.parks(g.acquire(2, x))
	p := g.parks(g.move(0, x))
	g.looks([]int{1}, 0, -1, 0, 1, api.Waiter{Thread: 2, Mode: x})
	g.ends(g.release(1), 1)
	g.looks(nil, -1, 0, -1, 0, api.Waiter{Thread: 2, Mode: x})
	g.ends(p, 1)
	if waits, _ := g.step(q); !waits {
		t.Error("gets it, too")
	}
	g.ends(g.move(0, u), 1)
	if waits, _ := g.step(q); !waits {
		t.Error("gets it beside U")
	}
	g.ends(g.move(0, s), 1)
	if waits, _ := g.step(q); !waits {
		t.Error("gets it beside S")
	}
	g.ends(g.release(0), 1)
	g.ends(q, 1)
}

// P9.4: the last word wait that is loaded lets it wait whatever it is, but 0.
func TestAnyWait(t *testing.T) {
	g := example(t)
	g.ends(g.acquire(0, x), 1)
	p := g.parks(g.acquire(1, s))
	for _, v := range []uint64{2, 1 << 32, math.MaxUint64} {
		g.set(13, v)
		g.accesses(p, load(13, v))
	}
	g.set(13, 0)
	g.accesses(p, load(13, 0))
	if !p.Done() || p.Result() != 1 {
		t.Error(p.Done(), p.Result())
	}
}

// P9.4: a thread may be woken before it looks, so that it does not wait at all.
func TestWokenBefore(t *testing.T) {
	g := example(t)
	g.ends(g.acquire(0, x), 1)
	p := g.acquire(1, s)
	for range 11 { // it has given the guard back, and looks next
		if waits, _ := g.step(p); waits {
			t.Fatal("waits")
		}
	}
	g.ends(g.release(0), 1)
	g.accesses(p, load(13, 0))
	if p.Result() != 1 {
		t.Error(p.Result())
	}
}

// P9.3: a program keeps nothing of what it was given.
func TestNothingKept(t *testing.T) {
	g := example(t)
	l := g.all(0)
	n := g.n
	was := make([]string, len(l))
	for i, p := range l {
		was[i] = inside(p)
	}
	*n = *nodes(t, 100, 1)
	for i, p := range l {
		if inside(p) != was[i] {
			t.Error(i)
		}
	}
	g.n = nodes(t, 3, 3)
	g.ends(l[1], 1)
	g.looks([]int{0}, -1, -1, -1, 1)
	if !n.Same(nodes(t, 100, 1)) || !g.n.Same(nodes(t, 3, 3)) {
		t.Error("the nodes have changed")
	}
}

// P9.1, P9.2: what is returned shares no memory with anything else.
func TestNothingShared(t *testing.T) {
	shared := []int{0, 2}
	l := api.Latch{Shared: shared, Update: -1, Exclusive: -1, Wants: -1}
	w, _ := Pack(l, -1, -1)
	a, _, _, _ := Unpack(w)
	b, _, _, _ := Unpack(w)
	a.Shared[0] = 9
	if shared[0] != 0 || b.Shared[0] != 0 {
		t.Error(shared, b)
	}
	g := example(t)
	g.set(1, 5, 2, 4<<24+4<<32, 14, 2)
	a, _ = Look(g.m, g.n, 0)
	a.Shared[0], a.Queue[0].Thread = 9, 9
	g.looks([]int{0, 2}, -1, -1, -1, 0, api.Waiter{Thread: 1, Mode: u})
}

// runs are programs that come to all kinds of steps: the words before, and a program that ends, or waits.
func runs() []run {
	return []run{
		{nil, func(g ground) *Move { return g.acquire(0, s) }},
		{[]uint64{0, 5}, func(g ground) *Move { return g.acquire(0, s) }},                                                    // waits for the guard
		{[]uint64{2, 3 << 8}, func(g ground) *Move { return g.acquire(0, u) }},                                               // waits
		{[]uint64{2, 3<<8 + 4<<24 + 4<<32}, func(g ground) *Move { return g.acquire(0, u) }},                                 // waits behind another one
		{[]uint64{1, 2, 2, 1 + 1<<40}, func(g ground) *Move { return g.move(0, x) }},                                         // waits for X
		{[]uint64{1, 1, 2, 2 + 2<<16 + 1<<40}, func(g ground) *Move { return g.release(0) }},                                 // wakes who waits for X
		{[]uint64{2, 1<<8 + 4<<24 + 6<<32, 12, 6, 13, 1, 14, 1, 19, 1, 20, 1}, func(g ground) *Move { return g.release(0) }}, // wakes two
		{[]uint64{2, 1<<8 + 4<<24 + 6<<32, 12, 6, 13, 1, 14, 1, 19, 1, 20, 1}, func(g ground) *Move { return g.move(0, u) }},
		{nil, func(g ground) *Move { return g.release(0) }}, // refused
	}
}

type run struct {
	words []uint64
	make  func(ground) *Move
}

// somewhere calls a function with programs at all of their steps, each with the arena for the next one, and after the end.
func somewhere(t *testing.T, f func(g ground, p *Move)) {
	t.Helper()
	for _, r := range runs() {
		g := example(t)
		g.set(r.words...)
		p := r.make(g)
		for waits := false; !waits; {
			f(g, p)
			if p.Done() {
				break
			}
			waits, _ = g.step(p)
		}
	}
}

// P9.4: a copy, made before any step, goes on as the program would have, and neither of them changes the other.
func TestCopy(t *testing.T) {
	somewhere(t, func(g ground, p *Move) {
		was := inside(p)
		other := ground{t, g.m.Copy(), g.n, g.at}
		c, is := p.Copy().(*Move)
		if !is || inside(c) != was || c.Done() != p.Done() || c.Result() != p.Result() {
			t.Fatal(was)
		}
		third := p.Copy().(*Move)
		again := ground{t, g.m.Copy(), g.n, g.at}
		for waits := false; !waits && !c.Done(); {
			var a, b api.Access
			waits, a = other.step(c)
			after := inside(c)
			if waits2, b2 := again.step(third); waits2 != waits || b2 != a || inside(c) != after || inside(third) != after {
				t.Fatal(a, b, b2)
			}
			if inside(p) != was {
				t.Fatal("changed with its copy")
			}
		}
		if c.Result() != third.Result() {
			t.Fatal(c.Result(), third.Result())
		}
	})
}

// P9.4: a copy has its own list of those who are to be woken.
func TestCopyOfWoken(t *testing.T) {
	g := example(t)
	g.set(2, 1<<8+4<<24+6<<32, 12, 4, 14, 1, 20, 1) // 1 waits behind itself
	for begin := 5; begin < 40; begin++ {
		g.m.Store(0, 0)
		p := g.release(0)
		for range begin {
			g.step(p)
		}
		c := p.Copy().(*Move)
		other := ground{t, g.m.Copy(), g.n, g.at}
		other.set(12, 6)
		for range 5 {
			other.step(c)
		}
		was := inside(c)
		for range 5 {
			g.step(p)
		}
		if inside(c) != was {
			t.Fatal(begin, "changed by what it was copied from")
		}
	}
}
