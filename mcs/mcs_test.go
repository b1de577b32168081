package mcs

import (
	"math"
	"testing"

	"ticketline/api"
	"ticketline/mem"
	"ticketline/qnode"
)

// ground is an arena with nodes, and a lock.
type ground struct {
	*testing.T
	m    *mem.Mem
	n    *qnode.Nodes
	lock int
}

// example returns the arena of the chapter's examples: the nodes of two threads from the word 1 on, the lock at the word 0.
func example(t *testing.T) ground {
	t.Helper()
	return ground{t, arena(t, 13), nodes(t, 1, 2), 0}
}

// arena returns an arena of so many words.
func arena(t *testing.T, words int) *mem.Mem {
	t.Helper()
	m, e := mem.New(words)
	if m == nil || e != api.OK {
		t.Fatal(words, e)
	}
	return m
}

// nodes returns the nodes of so many threads from a word on.
func nodes(t *testing.T, base, threads int) *qnode.Nodes {
	t.Helper()
	n, e := qnode.New(base, threads)
	if n == nil || e != api.OK {
		t.Fatal(base, threads, e)
	}
	return n
}

// acquire returns a program by which a node gets the lock.
func (g ground) acquire(node int) *Acquire {
	g.Helper()
	a, e := NewAcquire(g.n, g.lock, node)
	if a == nil || e != api.OK {
		g.Fatal(node, e)
	}
	return a
}

// release returns a program by which a node gives the lock back.
func (g ground) release(node int) *Release {
	g.Helper()
	r, e := NewRelease(g.n, g.lock, node)
	if r == nil || e != api.OK {
		g.Fatal(node, e)
	}
	return r
}

// both returns a program of each kind of a node.
func (g ground) both(node int) []api.Program {
	g.Helper()
	return []api.Program{g.acquire(node), g.release(node)}
}

// set makes words other values: number and value, by turns.
func (g ground) set(l ...uint64) {
	g.Helper()
	for i := 0; i < len(l); i += 2 {
		if e := g.m.Store(int(l[i]), l[i+1]); e != api.OK {
			g.Fatal(l[i], e)
		}
	}
}

// want checks words: number and value, by turns.
func (g ground) want(l ...uint64) {
	g.Helper()
	for i := 0; i < len(l); i += 2 {
		if v, e := g.m.Load(int(l[i])); v != l[i+1] || e != api.OK {
			g.Error("word", l[i], "is", v, e)
		}
	}
}

// steps makes steps: w is one that waits, s one that does not, and e one that does not, and ends the program. None makes more than one access.
func (g ground) steps(p api.Program, want string) {
	g.Helper()
	for i, c := range want {
		g.step(p, i, c)
	}
}

// step makes a step as steps does, and returns its access.
func (g ground) step(p api.Program, i int, c rune) api.Access {
	g.Helper()
	o, e := mem.NewOnce(g.m)
	if e != api.OK {
		g.Fatal(e)
	}
	if p.Done() || p.Result() != 0 {
		g.Fatal("step", i, "has ended before")
	}
	before := g.m.Copy()
	waits, e := p.Step(o)
	if e != api.OK || waits != (c == 'w') || p.Done() != (c == 'e') || (p.Result() == 1) != (c == 'e') || p.Result() > 1 {
		g.Fatal("step", i, waits, e, p.Done(), p.Result())
	}
	if waits && !g.m.Same(before) {
		g.Error("step", i, "waits, and changes a word")
	}
	return o.Access()
}

// accesses makes steps as steps does, and checks the access of each.
func (g ground) accesses(p api.Program, letters string, want ...api.Access) {
	g.Helper()
	for i, c := range letters {
		if a := g.step(p, i, c); a != want[i] {
			g.Error("step", i, a)
		}
	}
}

// The accesses, as the chapter's steps make them.
func load(w int, v uint64) api.Access {
	return api.Access{Kind: api.AccessLoad, Word: w, Before: v, After: v}
}

func store(w int, before, after uint64) api.Access {
	return api.Access{Kind: api.AccessStore, Word: w, Before: before, After: after}
}

func swap(w int, before, after uint64) api.Access {
	return api.Access{Kind: api.AccessSwap, Word: w, Before: before, After: after}
}

func cas(w int, before, after uint64) api.Access {
	return api.Access{Kind: api.AccessCAS, Word: w, Before: before, After: after}
}

// P8.2: the first row of the chapter's example.
func TestExampleAlone(t *testing.T) {
	g := example(t)
	a := g.acquire(0)
	g.steps(a, "sse")
	g.want(0, 1)
	g.steps(g.release(0), "se")
	g.want(0, 0)
}

// P8.2: the second and the third row of the chapter's example.
func TestExampleBehind(t *testing.T) {
	g := example(t)
	g.steps(g.acquire(0), "sse")
	b := g.acquire(2)
	g.steps(b, "ssssw")
	g.want(0, 3, 1, 3)
	g.steps(g.release(0), "se")
	g.steps(b, "e")
	g.want(0, 3)
}

// P8.2: the fourth row of the chapter's example.
func TestExampleUnlinked(t *testing.T) {
	g := example(t)
	g.steps(g.acquire(0), "sse")
	b := g.acquire(2)
	g.steps(b, "sss")
	r := g.release(0)
	g.steps(r, "ssw")
	g.steps(b, "s")
	g.steps(r, "se")
}

// P8.1, P8.2: the last row of the chapter's example.
func TestExampleErrors(t *testing.T) {
	g := example(t)
	if a, e := NewAcquire(g.n, 1, 0); a != nil || e != api.ErrArg {
		t.Error(a, e)
	}
	if a, e := NewAcquire(g.n, 0, 4); a != nil || e != api.ErrArg {
		t.Error(a, e)
	}
	if r, e := NewRelease(g.n, -1, 0); r != nil || e != api.ErrArg {
		t.Error(r, e)
	}
	a := g.acquire(0)
	g.steps(a, "sse")
	if waits, e := a.Step(g.m); waits || e != api.ErrEnd {
		t.Error(waits, e)
	}
}

// wantNew checks what both constructors return.
func wantNew(t *testing.T, n *qnode.Nodes, lock, node int, want api.Errno) {
	t.Helper()
	a, e := NewAcquire(n, lock, node)
	r, f := NewRelease(n, lock, node)
	if e != want || f != want || (a == nil) != (want != api.OK) || (r == nil) != (want != api.OK) {
		t.Error(lock, node, e, f, a, r)
	}
	if want == api.OK && (a.Done() || r.Done() || a.Result() != 0 || r.Result() != 0) {
		t.Error(lock, node, "has ended at first")
	}
}

// far returns numbers of neither words nor nodes; some would be, if they were cut off or went round.
func far() []int {
	return []int{-1, -2, api.MaxWords, api.MaxWords + 1, 1 << 32, 1<<32 + 1, 1 << 62, math.MaxInt/3 + 1, math.MaxInt, math.MinInt, math.MinInt + 1}
}

// P8.1: any word of an arena may be a lock but those of the nodes, wherever the nodes are.
func TestLocks(t *testing.T) {
	for _, threads := range []int{1, 2, 64} {
		for _, base := range []int{0, 1, 2, 500, api.MaxWords - 6*threads - 1, api.MaxWords - 6*threads} {
			n := nodes(t, base, threads)
			for lock := range api.MaxWords {
				if lock > base+3 && lock < base+6*threads-3 || lock > 520 && lock < base-3 || lock > base+6*threads+3 && lock < api.MaxWords-3 {
					continue // far from where something changes
				}
				want := api.OK
				if lock >= base && lock < base+6*threads {
					want = api.ErrArg
				}
				wantNew(t, n, lock, 0, want)
			}
			for _, lock := range far() {
				wantNew(t, n, lock, 0, api.ErrArg)
			}
		}
	}
}

// P8.1: the nodes of all threads, and of both kinds, may have a lock, and no others.
func TestNodes(t *testing.T) {
	for threads := 1; threads <= 64; threads++ {
		n := nodes(t, 5, threads)
		for node := range 2 * threads {
			wantNew(t, n, 4, node, api.OK)
			wantNew(t, n, 5, node, api.ErrArg)
		}
		for _, node := range append(far(), 2*threads, 2*threads+1) {
			wantNew(t, n, 4, node, api.ErrArg)
			wantNew(t, n, 5, node, api.ErrArg)
		}
	}
}

// P8.1: nil and zero Nodes come before what is wrong with the lock and the node.
func TestNewNil(t *testing.T) {
	for _, n := range []*qnode.Nodes{nil, {}} {
		for _, x := range append(far(), 0, 1) {
			wantNew(t, n, x, 0, api.ErrNil)
			wantNew(t, n, 0, x, api.ErrNil)
		}
	}
}

// P8.1: a program keeps nothing of what it was given: neither does it change with it, nor does it change it.
func TestNothingKept(t *testing.T) {
	g := example(t)
	l := append(g.both(0), g.acquire(2))
	*g.n = *nodes(t, 0, 1)
	g.accesses(l[0], "sse", store(1, 0, 0), store(2, 0, 1), swap(0, 0, 1))
	*g.n = qnode.Nodes{}
	g.accesses(l[2], "ssssw", store(7, 0, 0), store(8, 0, 1), swap(0, 1, 3), store(1, 0, 3), load(8, 1))
	g.accesses(l[1], "se", load(1, 3), store(8, 1, 0))
	n := nodes(t, 1, 2)
	g.n = n
	g.steps(g.acquire(0), "ssss")
	if !n.Same(nodes(t, 1, 2)) {
		t.Error("the nodes have changed")
	}
}

// P8.2: each step of Acquire makes the access that the chapter says, whatever the words were before.
func TestAcquireSteps(t *testing.T) {
	g := example(t)
	g.set(1, 77, 2, 0, 3, 5, 7, 78, 8, 0)
	g.accesses(g.acquire(0), "sse", store(1, 77, 0), store(2, 0, 1), swap(0, 0, 1))
	b := g.acquire(2)
	g.accesses(b, "ssssww", store(7, 78, 0), store(8, 0, 1), swap(0, 1, 3), store(1, 0, 3), load(8, 1), load(8, 1))
	for _, v := range []uint64{2, 1 << 32, math.MaxUint64} { // whatever is not 0 lets it wait
		g.set(8, v)
		g.accesses(b, "ww", load(8, v), load(8, v))
	}
	g.set(8, 0)
	g.accesses(b, "e", load(8, 0))
	g.want(0, 3, 1, 3, 2, 1, 3, 5, 7, 0, 8, 0, 9, 0)
}

// P8.2: Acquire goes on without waiting, if the word wait has become 0 before it is loaded.
func TestAcquireNoWait(t *testing.T) {
	g := example(t)
	g.set(0, 2)
	b := g.acquire(3)
	g.accesses(b, "ssss", store(10, 0, 0), store(11, 0, 1), swap(0, 2, 4), store(4, 0, 4))
	g.set(11, 0)
	g.accesses(b, "e", load(11, 0))
}

// P8.2: each step of Release makes the access that the chapter says: with nobody, with somebody behind, and with somebody who comes meanwhile.
func TestReleaseSteps(t *testing.T) {
	g := example(t)
	g.set(0, 1)
	g.accesses(g.release(0), "se", load(1, 0), cas(0, 1, 0))
	g.set(0, 3, 1, 3, 8, 9)
	g.accesses(g.release(0), "se", load(1, 3), store(8, 9, 0))
	g.set(0, 3, 1, 0, 8, 1)
	r := g.release(0)
	g.accesses(r, "ssww", load(1, 0), cas(0, 3, 3), load(1, 0), load(1, 0))
	g.set(1, 3)
	g.accesses(r, "se", load(1, 3), store(8, 1, 0))
	g.want(0, 3, 1, 3, 8, 0)
}

// P8.2: Release gives the lock on to whoever is behind, also if the lock is its own reference; and it stays with who was behind when it looked.
func TestReleaseFirstLook(t *testing.T) {
	g := example(t)
	g.set(0, 1, 1, 4, 11, 1)
	r := g.release(0)
	g.accesses(r, "s", load(1, 4))
	g.set(1, 3)
	g.accesses(r, "e", store(11, 1, 0))
	g.want(0, 1, 1, 3, 8, 0)
}

// P8.2: a lock that is nobody's, or anything else but the own reference, is not given back.
func TestReleaseOther(t *testing.T) {
	for _, lock := range []uint64{0, 2, 1<<32 + 1, math.MaxUint64} {
		g := example(t)
		g.set(0, lock)
		g.accesses(g.release(0), "ssw", load(1, 0), cas(0, lock, lock), load(1, 0))
	}
}

// P8.2: the steps of all nodes, of other places of nodes and lock.
func TestPlaces(t *testing.T) {
	for _, c := range [][3]int{{0, 3, 18}, {10, 2, 9}, {api.MaxWords - 384, 64, 0}, {api.MaxWords - 7, 1, api.MaxWords - 1}} {
		g := ground{t, arena(t, api.MaxWords), nodes(t, c[0], c[1]), c[2]}
		for node := range 2 * c[1] {
			next, wait, ref := c[0]+3*node, c[0]+3*node+1, uint64(node)+1
			g.set(uint64(wait), 0)
			g.accesses(g.acquire(node), "sse", store(next, 0, 0), store(wait, 0, 1), swap(c[2], 0, ref))
			g.accesses(g.release(node), "se", load(next, 0), cas(c[2], ref, 0))
		}
	}
}

// P8.3: a copy, made before any step, goes on as the program would have, and neither of them changes the other.
func TestCopy(t *testing.T) {
	for _, begun := range []struct {
		p     func(ground) api.Program
		words []uint64
		steps string
	}{
		{func(g ground) api.Program { return g.acquire(0) }, nil, "sse"},
		{func(g ground) api.Program { return g.acquire(2) }, []uint64{0, 1}, "ssssw"},
		{func(g ground) api.Program { return g.release(0) }, []uint64{0, 1}, "se"},
		{func(g ground) api.Program { return g.release(0) }, []uint64{0, 3, 1, 3}, "se"},
		{func(g ground) api.Program { return g.release(0) }, []uint64{0, 3}, "ssw"},
	} {
		for n := range len(begun.steps) + 1 {
			g := example(t)
			g.set(begun.words...)
			p := begun.p(g)
			g.steps(p, begun.steps[:n])
			was := inside(t, p)
			c := p.Copy()
			if inside(t, c) != was || c.Done() != p.Done() || c.Result() != p.Result() {
				t.Fatal(begun.steps, n)
			}
			other := ground{t, g.m.Copy(), g.n, g.lock}
			other.steps(c, begun.steps[n:])
			if inside(t, p) != was {
				t.Fatal(begun.steps, n, "changed with its copy")
			}
			is := inside(t, c)
			g.steps(p, begun.steps[n:])
			if inside(t, c) != is || inside(t, p) != is || !g.m.Same(other.m) {
				t.Fatal(begun.steps, n, "goes on in another way")
			}
		}
	}
}

// inside returns all that a program has, and which kind it is of.
func inside(t *testing.T, p api.Program) any {
	t.Helper()
	switch x := p.(type) {
	case *Acquire:
		return *x
	case *Release:
		return *x
	}
	t.Fatal("no program of this layer")
	return nil
}
