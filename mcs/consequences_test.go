package mcs

import (
	"math"
	"math/rand"
	"slices"
	"testing"

	"ticketline/api"
	"ticketline/mem"
	"ticketline/qnode"
)

// words is a small arena that can be compared: a lock at the word 0, and nodes from the word 1 on.
type words [25]uint64

func (m *words) Load(w int) (uint64, api.Errno) { return m[w], api.OK }

func (m *words) Store(w int, v uint64) api.Errno {
	m[w] = v
	return api.OK
}

func (m *words) CAS(w int, old, new uint64) (bool, api.Errno) {
	if m[w] != old {
		return false, api.OK
	}
	m[w] = new
	return true, api.OK
}

func (m *words) Swap(w int, v uint64) (uint64, api.Errno) {
	was := m[w]
	m[w] = v
	return was, api.OK
}

func (m *words) Len() int { return len(m) }

// What a node does: it begins Acquire if it is outside, and Release if it has the lock.
const (
	outside = iota
	getting
	having
	giving
)

// player is a node that gets the lock, and gives it back, some more times.
type player struct {
	does, times int
	run         common
}

// play is a state of all players. Queue is who has swapped, and has not got the lock yet, in order, of which there are as many as waiting says.
type play struct {
	words   words
	players [4]player
	queue   [4]int
	waiting int
}

// game is some players, of which each one has a node of a thread of its own.
type game struct {
	t       *testing.T
	n       *qnode.Nodes
	players int
}

// node returns the node by which a player plays; the kinds come by turns.
func (g game) node(i int) int { return 2*i + i%2 }

// start returns the first state, in which nobody has begun.
func (g game) start(times int) play {
	var s play
	for i := range g.players {
		s.players[i].times = times
	}
	for w := 1; w < len(s.words); w++ {
		s.words[w] = uint64(w) * 1000 // what was in the words before is nobody's affair
	}
	return s
}

// over reports whether a player has nothing more to do.
func (s *play) over(i int) bool { return s.players[i].does == outside && s.players[i].times == 0 }

// step lets a player make a step, beginning a program if it runs none, and reports whether it has waited.
func (g game) step(s *play, i int) bool {
	p := &s.players[i]
	switch p.does {
	case outside:
		a, e := NewAcquire(g.n, 0, g.node(i))
		g.fine(e)
		p.does, p.run = getting, a.common
		p.times--
	case having:
		r, e := NewRelease(g.n, 0, g.node(i))
		g.fine(e)
		p.does, p.run = giving, r.common
	}
	if p.does == giving {
		return g.give(s, i)
	}
	return g.get(s, i)
}

// get makes a step of Acquire; the third one puts the player into the queue, out of whose front it must come with the last one.
func (g game) get(s *play, i int) bool {
	p := &s.players[i]
	a := Acquire{p.run}
	swaps := a.next == swapLock
	waits, e := a.Step(&s.words)
	g.fine(e)
	p.run = a.common
	if swaps {
		s.queue[s.waiting] = i
		s.waiting++
	}
	if a.Done() {
		if s.queue[0] != i || s.waiting == 0 {
			g.t.Fatal("not in the order of their swaps", i, s.queue[:s.waiting])
		}
		copy(s.queue[:], s.queue[1:])
		s.waiting--
		p.does, p.run = having, common{}
	}
	return waits
}

// give makes a step of Release.
func (g game) give(s *play, i int) bool {
	p := &s.players[i]
	r := Release{p.run}
	waits, e := r.Step(&s.words)
	g.fine(e)
	p.run = r.common
	if r.Done() {
		p.does, p.run = outside, common{}
	}
	return waits
}

func (g game) fine(e api.Errno) {
	g.t.Helper()
	if e != api.OK {
		g.t.Fatal(e)
	}
}

// look checks a state: at most one has the lock; nobody has it, or somebody's next step does not wait; and if nobody runs anything, the lock is 0.
func (g game) look(s play) {
	have, running, goes := 0, 0, 0
	for i := range g.players {
		switch s.players[i].does {
		case outside:
			continue
		case having:
			have++
			continue
		}
		running++
		after := s
		if !g.step(&after, i) {
			goes++
		} else if after != s {
			g.t.Fatal("a step that waits changes something")
		}
	}
	if have > 1 {
		g.t.Fatal(have, "have the lock")
	}
	if have == 0 && running > 0 && goes == 0 {
		g.t.Fatal("all of them wait")
	}
	if have+running == 0 && s.words[0] != 0 {
		g.t.Fatal("the lock stays", s.words[0])
	}
}

// all goes through all states that may come, and returns how many there are.
func (g game) all(times int) int {
	first := g.start(times)
	seen := map[play]bool{first: true}
	for work := []play{first}; len(work) > 0; {
		s := work[len(work)-1]
		work = work[:len(work)-1]
		g.look(s)
		for i := range g.players {
			if s.over(i) {
				continue
			}
			after := s
			g.step(&after, i)
			if !seen[after] {
				seen[after] = true
				work = append(work, after)
			}
		}
	}
	return len(seen)
}

// P8.4: in all orders of steps, of one player alone, of two that get the lock six times, of three that do so three times, and of four that do so once.
func TestAllOrders(t *testing.T) {
	for _, c := range [][2]int{{1, 3}, {2, 6}, {3, 3}, {4, 1}} {
		g := game{t, nodes(t, 1, c[0]), c[0]}
		n := g.all(c[1])
		t.Log(c[0], "players,", c[1], "times each:", n, "states")
	}
}

// P8.4: if all are picked by turns, or at random, all of them get the lock as often as they want.
func TestAllGet(t *testing.T) {
	r := rand.New(rand.NewSource(8))
	for round := range 200 {
		g := game{t, nodes(t, 1, 4), 4}
		s := g.start(20)
		steps := 0
		for ; steps < 100000 && slices.ContainsFunc([]int{0, 1, 2, 3}, func(i int) bool { return !s.over(i) }); steps++ {
			i := steps % 4
			if round > 0 {
				i = r.Intn(4)
			}
			if !s.over(i) {
				g.step(&s, i)
				g.look(s)
			}
		}
		if steps == 100000 || s.words[0] != 0 {
			t.Fatal(round, s.words[0])
		}
	}
}

// P8.4: a lock leaves the words of others alone, so that one node may hold several; and two locks go on side by side.
func TestTwoLocks(t *testing.T) {
	g := example(t)
	g.m = arena(t, 20)
	other := g
	other.lock = 19
	g.steps(g.acquire(0), "sse")
	other.steps(other.acquire(1), "sse")
	a, b := g.acquire(2), other.acquire(3)
	g.steps(a, "ssssw")
	other.steps(b, "ssssw")
	g.want(0, 3, 19, 4, 1, 3, 4, 4)
	other.steps(other.release(1), "se")
	g.steps(a, "w")
	other.steps(b, "e")
	g.steps(g.release(0), "se")
	g.steps(a, "e")
	g.steps(g.release(2), "se")
	other.steps(other.release(3), "se")
	g.want(0, 0, 19, 0)
}

// P1: no call panics, whatever the arguments and the words are; a step with an error, or that waits, changes nothing.
func FuzzCalls(f *testing.F) {
	f.Add(1, 2, 0, 0, uint64(0), uint64(0), uint64(0))
	f.Add(1, 2, 0, 2, uint64(1), uint64(0), uint64(1))
	f.Add(1, 2, 0, 0, uint64(3), uint64(3), uint64(1))
	f.Add(1, 64, 0, 127, uint64(129), uint64(1<<63), uint64(7))
	f.Add(0, 1, 6, 1, uint64(math.MaxUint64), uint64(math.MaxUint64), uint64(0))
	f.Add(-1, 0, -1, -1, uint64(0), uint64(0), uint64(0))
	f.Add(65530, 1, 65529, 0, uint64(1), uint64(2), uint64(3))
	f.Add(0, 1, math.MaxInt, math.MinInt, uint64(1), uint64(2), uint64(3))
	f.Fuzz(func(t *testing.T, base, threads, lock, node int, v, next, wait uint64) {
		n, _ := qnode.New(base, threads)
		want := api.OK
		if n == nil {
			want = api.ErrNil
		} else if lock < 0 || lock > 65535 || lock >= base && lock < base+6*threads || node < 0 || node >= 2*threads {
			want = api.ErrArg
		}
		wantNew(t, n, lock, node, want)
		if want != api.OK {
			return
		}
		g := ground{t, arena(t, 500), n, lock}
		g.m.Store(lock, v)
		for _, p := range g.both(node) {
			g.m.Store(n.Next(node), next)
			g.m.Store(n.Wait(node), wait)
			g.fuzz(p)
		}
	})
}

// fuzz makes some steps of a program, on an arena in which anything may be.
func (g ground) fuzz(p api.Program) {
	g.Helper()
	for i := range 10 {
		done, was, m := p.Done(), inside(g.T, p), g.m.Copy()
		o, e := mem.NewOnce(g.m)
		if e != api.OK {
			g.Fatal(e)
		}
		waits, e := p.Step(o)
		if done != (e == api.ErrEnd) || e != api.OK && (waits || o.Access() != (api.Access{})) {
			g.Fatal(i, done, waits, e)
		}
		if (waits || e != api.OK) && (inside(g.T, p) != was || !g.m.Same(m)) {
			g.Fatal(i, waits, e)
		}
		if !waits && e == api.OK && (inside(g.T, p) == was || o.Access() == (api.Access{})) {
			g.Fatal(i)
		}
		if (p.Result() == 1) != p.Done() || p.Result() > 1 {
			g.Fatal(i, p.Result())
		}
	}
}
