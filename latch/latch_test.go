package latch

import (
	"fmt"
	"math"
	"slices"
	"testing"

	"ticketline/api"
	"ticketline/mcs"
	"ticketline/mem"
	"ticketline/qnode"
)

// The modes, shorter.
const (
	s = api.ModeShared
	u = api.ModeUpdate
	x = api.ModeExclusive
)

// ground is an arena with nodes, and a latch.
type ground struct {
	*testing.T
	m  *mem.Mem
	n  *qnode.Nodes
	at int
}

// example returns the arena of the chapter's examples: the nodes of three threads from the word 3 on, the latch at the word 0.
func example(t *testing.T) ground {
	t.Helper()
	return ground{t, arena(t, 21), nodes(t, 3, 3), 0}
}

// arena returns an arena of so many words.
func arena(t *testing.T, words int) *mem.Mem {
	t.Helper()
	m, e := mem.New(words)
	if m == nil || e != api.OK {
		t.Fatal(words, e)
	}
	return m
}

// nodes returns the nodes of so many threads from a word on.
func nodes(t *testing.T, base, threads int) *qnode.Nodes {
	t.Helper()
	n, e := qnode.New(base, threads)
	if n == nil || e != api.OK {
		t.Fatal(base, threads, e)
	}
	return n
}

// acquire returns a program by which a thread gets the latch.
func (g ground) acquire(thread int, mode api.Mode) *Move {
	g.Helper()
	return g.made(NewAcquire(g.n, g.at, thread, mode))
}

// release returns a program by which a thread gives the latch back.
func (g ground) release(thread int) *Move {
	g.Helper()
	return g.made(NewRelease(g.n, g.at, thread))
}

// move returns a program by which a thread goes to another mode.
func (g ground) move(thread int, mode api.Mode) *Move {
	g.Helper()
	return g.made(NewMove(g.n, g.at, thread, mode))
}

func (g ground) made(p *Move, e api.Errno) *Move {
	g.Helper()
	if p == nil || e != api.OK || p.Done() || p.Result() != 0 {
		g.Fatal(p, e)
	}
	return p
}

// all returns a program of each kind, and of each mode, of a thread.
func (g ground) all(thread int) []*Move {
	g.Helper()
	l := []*Move{g.release(thread)}
	for _, m := range []api.Mode{s, u, x} {
		l = append(l, g.acquire(thread, m), g.move(thread, m))
	}
	return l
}

// set makes words other values: number and value, by turns.
func (g ground) set(l ...uint64) {
	g.Helper()
	for i := 0; i < len(l); i += 2 {
		if e := g.m.Store(int(l[i]), l[i+1]); e != api.OK {
			g.Fatal(l[i], e)
		}
	}
}

// want checks words: number and value, by turns.
func (g ground) want(l ...uint64) {
	g.Helper()
	for i := 0; i < len(l); i += 2 {
		if v, e := g.m.Load(int(l[i])); v != l[i+1] || e != api.OK {
			g.Error("word", l[i], "is", v, e)
		}
	}
}

// step makes a step that has no error, and makes one access; it returns whether it has waited, and the access.
func (g ground) step(p *Move) (bool, api.Access) {
	g.Helper()
	o, e := mem.NewOnce(g.m)
	if e != api.OK {
		g.Fatal(e)
	}
	if p.Done() || p.Result() != 0 {
		g.Fatal("has ended before")
	}
	before, was := g.m.Copy(), inside(p)
	waits, e := p.Step(o)
	if e != api.OK || o.Access() == (api.Access{}) || !p.Done() && p.Result() != 0 || p.Result() > 1 {
		g.Fatal(waits, e, o.Access(), p.Done(), p.Result())
	}
	if waits && (!g.m.Same(before) || inside(p) != was || p.Done()) {
		g.Error("a step waits, and changes something")
	}
	return waits, o.Access()
}

// ends runs a program to its end, without waiting, and returns how many steps it has made.
func (g ground) ends(p *Move, result uint64) int {
	g.Helper()
	many := 0
	for ; !p.Done(); many++ {
		if waits, _ := g.step(p); waits || many > 100 {
			g.Fatal(many, waits)
		}
	}
	if p.Result() != result {
		g.Error("the result is", p.Result())
	}
	return many
}

// parks runs a program up to its first step that waits.
func (g ground) parks(p *Move) *Move {
	g.Helper()
	for many := 0; many < 100; many++ {
		waits, _ := g.step(p)
		if waits {
			return p
		}
	}
	g.Fatal("does not wait")
	return p
}

// accesses runs a program to its end, or up to its first step that waits, and checks the access of each step.
func (g ground) accesses(p *Move, want ...api.Access) {
	g.Helper()
	var l []api.Access
	for waits := false; !waits && !p.Done() && len(l) <= len(want); {
		var a api.Access
		waits, a = g.step(p)
		l = append(l, a)
	}
	if !slices.Equal(l, want) {
		g.Errorf("the accesses are\n%v, and not\n%v", l, want)
	}
}

// looks checks what Look returns: who holds S, U, X, who wants X, the group, and who waits.
func (g ground) looks(shared []int, update, exclusive, wants, group int, queue ...api.Waiter) {
	g.Helper()
	l, e := Look(g.m, g.n, g.at)
	if e != api.OK || !same(l, api.Latch{Shared: shared, Update: update, Exclusive: exclusive, Wants: wants, Group: group, Queue: queue}) {
		g.Error(l, e)
	}
}

// same reports whether two states are equal; nil and empty lists are.
func same(a, b api.Latch) bool {
	return slices.Equal(a.Shared, b.Shared) && a.Update == b.Update && a.Exclusive == b.Exclusive && a.Wants == b.Wants && a.Group == b.Group && slices.Equal(a.Queue, b.Queue)
}

// inside returns all that a program has, and those that it runs.
func inside(p *Move) string {
	c := *p
	c.enter, c.leave = nil, nil
	return fmt.Sprintf("%+v %+v %+v", c, *p.enter.(*mcs.Acquire), *p.leave.(*mcs.Release))
}

// The accesses, as the chapter's steps make them.
func load(w int, v uint64) api.Access {
	return api.Access{Kind: api.AccessLoad, Word: w, Before: v, After: v}
}

func store(w int, before, after uint64) api.Access {
	return api.Access{Kind: api.AccessStore, Word: w, Before: before, After: after}
}

func swap(w int, before, after uint64) api.Access {
	return api.Access{Kind: api.AccessSwap, Word: w, Before: before, After: after}
}

func cas(w int, before, after uint64) api.Access {
	return api.Access{Kind: api.AccessCAS, Word: w, Before: before, After: after}
}

// nothing is the state of a latch that nobody holds.
func nothing() api.Latch { return api.Latch{Update: -1, Exclusive: -1, Wants: -1} }

// P9.1: the first row of the chapter's example.
func TestExamplePack(t *testing.T) {
	l := api.Latch{Shared: []int{0, 2}, Update: 1, Exclusive: -1, Wants: -1, Group: 2}
	words := [2]uint64{5, 2 + 2<<24 + 4<<32 + 2<<40}
	if w, e := Pack(l, 1, 3); w != words || e != api.OK {
		t.Error(w, e)
	}
	if got, first, last, e := Unpack(words); !same(got, l) || first != 1 || last != 3 || e != api.OK {
		t.Error(got, first, last, e)
	}
}

// P9.1: the second row of the chapter's example.
func TestExamplePackErrors(t *testing.T) {
	wantPack(t, api.Latch{Update: 0, Exclusive: 1, Wants: -1}, -1, -1, [2]uint64{}, api.ErrArg)
	wantPack(t, nothing(), 0, 0, [2]uint64{}, api.ErrArg)
	wantUnpack(t, [2]uint64{0, 1 << 16}, api.Latch{}, 0, 0, api.ErrMalformed)
	wantUnpack(t, [2]uint64{0, 1 << 48}, api.Latch{}, 0, 0, api.ErrMalformed)
}

// P9.2, P9.4: the third row of the chapter's example.
func TestExampleAlone(t *testing.T) {
	g := example(t)
	if n := g.ends(g.acquire(0, s), 1); n != 9 {
		t.Error(n)
	}
	g.looks([]int{0}, -1, -1, -1, 1)
	g.ends(g.acquire(0, x), 0)
	if n := g.ends(g.release(0), 1); n != 9 {
		t.Error(n)
	}
	g.looks(nil, -1, -1, -1, 0)
}

// P9.2, P9.4: the fourth row of the chapter's example.
func TestExampleBehindX(t *testing.T) {
	g := example(t)
	g.ends(g.acquire(0, x), 1)
	p, q := g.parks(g.acquire(1, s)), g.parks(g.acquire(2, s))
	g.looks(nil, -1, 0, -1, 0, api.Waiter{Thread: 1, Mode: s}, api.Waiter{Thread: 2, Mode: s})
	g.ends(g.release(0), 1)
	g.looks([]int{1, 2}, -1, -1, -1, 2)
	if g.ends(p, 1) != 1 || g.ends(q, 1) != 1 {
		t.Error("not in one step")
	}
}

// P9.2, P9.4: the last row of the chapter's example.
func TestExampleWants(t *testing.T) {
	g := example(t)
	g.ends(g.acquire(0, u), 1)
	g.ends(g.acquire(1, s), 1)
	p := g.parks(g.move(0, x))
	g.looks([]int{1}, 0, -1, 0, 1)
	q := g.parks(g.acquire(2, s))
	g.ends(g.release(1), 1)
	g.looks(nil, -1, 0, -1, 0, api.Waiter{Thread: 2, Mode: s})
	if g.ends(p, 1) != 1 {
		t.Error("not in one step")
	}
	g.ends(g.release(0), 1)
	g.ends(q, 1)
}

// wantPack checks what Pack returns.
func wantPack(t *testing.T, l api.Latch, first, last int, w [2]uint64, e api.Errno) {
	t.Helper()
	if got, f := Pack(l, first, last); got != w || f != e {
		t.Error(l, first, last, "packed", got, f)
	}
}

// wantUnpack checks what Unpack returns.
func wantUnpack(t *testing.T, w [2]uint64, l api.Latch, first, last int, e api.Errno) {
	t.Helper()
	if got, a, b, f := Unpack(w); !same(got, l) || a != first || b != last || f != e {
		t.Error(w, "unpacked", got, a, b, f)
	}
}

// P9.1: Unpack inverts Pack, and Pack Unpack: each thread in each of its places, and each node of the kind Latch.
func TestPackEach(t *testing.T) {
	wantBoth := func(l api.Latch, first, last int, w [2]uint64) {
		t.Helper()
		wantPack(t, l, first, last, w, api.OK)
		wantUnpack(t, w, l, first, last, api.OK)
	}
	for i := range 64 {
		n := uint64(i + 1)
		for group := range 5 {
			wantBoth(api.Latch{Shared: []int{i}, Update: -1, Exclusive: -1, Wants: -1, Group: group}, -1, -1, [2]uint64{1 << i, uint64(group) << 40})
		}
		wantBoth(api.Latch{Update: i, Exclusive: -1, Wants: -1}, -1, -1, [2]uint64{0, n})
		wantBoth(api.Latch{Update: i, Exclusive: -1, Wants: i}, -1, -1, [2]uint64{0, n + n<<16})
		wantBoth(api.Latch{Update: -1, Exclusive: i, Wants: -1}, -1, -1, [2]uint64{0, n << 8})
		for k := range 64 {
			wantBoth(nothing(), 2*i+1, 2*k+1, [2]uint64{0, 2*n<<24 + uint64(2*k+2)<<32})
			if k < i {
				wantBoth(api.Latch{Shared: []int{k, i}, Update: -1, Exclusive: -1, Wants: -1}, -1, -1, [2]uint64{1<<k + 1<<i, 0})
			}
			if k != i {
				wantBoth(api.Latch{Shared: []int{k}, Update: i, Exclusive: -1, Wants: i, Group: 3}, -1, -1, [2]uint64{1 << k, n + n<<16 + 3<<40})
			}
		}
	}
	all := nothing()
	for i := range 64 {
		all.Shared = append(all.Shared, i)
	}
	wantBoth(all, -1, -1, [2]uint64{math.MaxUint64, 0})
}

// P9.1: the Queue is not looked at.
func TestPackQueue(t *testing.T) {
	l := nothing()
	l.Queue = []api.Waiter{{Thread: -5, Mode: 9}, {Thread: 1000}}
	wantPack(t, l, 3, 1, [2]uint64{0, 4<<24 + 2<<32}, api.OK)
}

// P9.1: lists of threads that are not in increasing order, or have a thread twice, or what is no thread.
func TestPackShared(t *testing.T) {
	for _, shared := range [][]int{{0, 0}, {1, 0}, {5, 63, 62}, {3, 4, 4}, {64}, {0, 64}, {-1}, {-1, 0}, {math.MinInt}, {math.MaxInt}, {0, 128}, {1 << 32}, {-64}} {
		l := nothing()
		l.Shared = shared
		wantPack(t, l, -1, -1, [2]uint64{}, api.ErrArg)
		l.Group = 1
		wantPack(t, l, -1, -1, [2]uint64{}, api.ErrArg)
	}
}

// P9.1: numbers that are none of threads or nodes, groups that are too much, and what does not go together.
func TestPackErrors(t *testing.T) {
	for _, n := range []int{-2, 64, 65, 255, 256, 1 << 32, math.MaxInt, math.MinInt} {
		wantPack(t, api.Latch{Update: n, Exclusive: -1, Wants: -1}, -1, -1, [2]uint64{}, api.ErrArg)
		wantPack(t, api.Latch{Update: -1, Exclusive: n, Wants: -1}, -1, -1, [2]uint64{}, api.ErrArg)
		wantPack(t, api.Latch{Update: n, Exclusive: -1, Wants: n}, -1, -1, [2]uint64{}, api.ErrArg)
		wantPack(t, api.Latch{Update: 3, Exclusive: -1, Wants: n}, -1, -1, [2]uint64{}, api.ErrArg)
	}
	for _, n := range []int{-3, -2, 0, 2, 126, 128, 129, 255, 257, 1<<32 + 1, math.MaxInt, math.MinInt} {
		wantPack(t, nothing(), n, n, [2]uint64{}, api.ErrArg)
		wantPack(t, nothing(), 1, n, [2]uint64{}, api.ErrArg)
		wantPack(t, nothing(), n, 1, [2]uint64{}, api.ErrArg)
	}
	for i, l := range []api.Latch{
		{},
		{Update: -1, Exclusive: -1, Wants: 0},
		{Update: -1, Exclusive: 2, Wants: 2},
		{Update: 1, Exclusive: -1, Wants: 2},
		{Update: 1, Exclusive: 1, Wants: -1},
		{Update: 1, Exclusive: 2, Wants: -1},
		{Shared: []int{1}, Update: -1, Exclusive: 2, Wants: -1},
		{Shared: []int{1}, Update: -1, Exclusive: 1, Wants: -1},
		{Shared: []int{0, 63}, Update: 63, Exclusive: -1, Wants: -1},
		{Shared: []int{0}, Update: 0, Exclusive: -1, Wants: 0},
		{Update: -1, Exclusive: -1, Wants: -1, Group: 1},
		{Update: 3, Exclusive: -1, Wants: -1, Group: 1},
		{Shared: []int{1}, Update: -1, Exclusive: -1, Wants: -1, Group: 5},
		{Shared: []int{1}, Update: -1, Exclusive: -1, Wants: -1, Group: -1},
		{Shared: []int{1}, Update: -1, Exclusive: -1, Wants: -1, Group: 256},
		{Shared: []int{1}, Update: -1, Exclusive: -1, Wants: -1, Group: math.MinInt},
	} {
		if w, e := Pack(l, -1, -1); w != ([2]uint64{}) || e != api.ErrArg {
			t.Error(i, w, e)
		}
	}
	wantPack(t, nothing(), -1, 1, [2]uint64{}, api.ErrArg)
	wantPack(t, nothing(), 1, -1, [2]uint64{}, api.ErrArg)
}

// P9.1: words say something just if Pack makes them: all values of each number of the state, with and without others.
func TestUnpackEach(t *testing.T) {
	for _, bits := range []uint64{0, 1, 2, 6, 1 << 63} {
		for _, rest := range []uint64{0, 1, 2, 64, 1 << 8, 64 << 8, 1 + 1<<16, 2 + 2<<16, 2<<24 + 4<<32, 128<<24 + 128<<32, 1 << 40, 4 << 40} {
			for at := range 6 {
				for v := range uint64(256) {
					w := rest&^(255<<(8*at)) | v<<(8*at)
					wantSaid(t, [2]uint64{bits, w})
				}
			}
			for at := 48; at < 64; at++ {
				wantUnpack(t, [2]uint64{bits, rest | 1<<at}, api.Latch{}, 0, 0, api.ErrMalformed)
			}
		}
	}
}

// wantSaid checks Unpack against the chapter's definition.
func wantSaid(t *testing.T, w [2]uint64) {
	t.Helper()
	l, first, last, e := Unpack(w)
	if (e == api.OK) != says(w, 64) {
		t.Fatalf("%x %x: %v", w[0], w[1], e)
	}
	if e != api.OK {
		wantUnpack(t, w, api.Latch{}, 0, 0, api.ErrMalformed)
		return
	}
	if len(l.Queue) != 0 {
		t.Fatal(l.Queue)
	}
	wantPack(t, l, first, last, w, api.OK)
}

// says reports whether both words say something, and name nobody who is not there, as the chapter says it.
func says(w [2]uint64, threads int) bool {
	number := func(i int) int { return int(w[1] / (1 << (8 * i)) % 256) }
	holds := make([]int, 65) // how many modes a thread holds
	var held []api.Mode
	for t := range 64 {
		if w[0]/(1<<t)%2 == 1 {
			if t >= threads {
				return false
			}
			held = append(held, s)
			holds[t]++
		}
	}
	group := number(5)
	if group > 4 || group > 0 && len(held) == 0 {
		return false
	}
	for i, m := range []api.Mode{u, x} {
		n := number(i)
		if n > threads {
			return false
		}
		if n > 0 {
			held = append(held, m)
			holds[n-1]++
		}
	}
	for i, a := range held { // S goes with S and U, and nothing else with anything
		for _, b := range held[:i] {
			if a == x || b == x || a == u && b == u {
				return false
			}
		}
	}
	first, last := number(3), number(4)
	queue := first == 0 && last == 0 || first > 0 && last > 0 && first%2 == 0 && last%2 == 0 && first <= 2*threads && last <= 2*threads
	return slices.Max(holds) < 2 && queue && (number(2) == 0 || number(2) == number(0)) && w[1]/(1<<48) == 0
}
