package latch

import (
	"math/rand"
	"slices"
	"testing"

	"ticketline/api"
	"ticketline/mem"
	"ticketline/modes"
	"ticketline/qnode"
)

// direct does what the chapter says that a move does, one thing after the other, and notes the accesses. It panics with an error, or with tooLong.
type direct struct {
	m       *mem.Mem
	n       *qnode.Nodes
	at      int
	thread  int
	shared  []bool
	numbers [6]uint64 // U, X, wants, first, last, the group
	did     []api.Access
}

// tooLong is that a move has no end: so does handing on in a queue that goes round.
const tooLong = "too long"

func (d *direct) note(a api.Access, e api.Errno) api.Access {
	if e != api.OK {
		panic(e)
	}
	if d.did = append(d.did, a); len(d.did) > 300 {
		panic(tooLong)
	}
	return a
}

func (d *direct) load(w int) uint64 {
	return d.note(d.m.Do(api.Access{Kind: api.AccessLoad, Word: w})).After
}

func (d *direct) store(w int, v uint64) {
	d.note(d.m.Do(api.Access{Kind: api.AccessStore, Word: w, After: v}))
}

// word returns one of the words of a thread's node.
func (d *direct) word(thread, kind, which int) int { return d.n.Base() + 6*thread + 3*kind + which }

// holds returns which modes are held, one for each who holds it.
func (d *direct) holds() []api.Mode {
	var l []api.Mode
	for _, is := range d.shared {
		if is {
			l = append(l, s)
		}
	}
	if d.numbers[0] > 0 {
		l = append(l, u)
	}
	if d.numbers[1] > 0 {
		l = append(l, x)
	}
	return l
}

// give gives the latch to a thread in a mode, or in none.
func (d *direct) give(thread int, mode api.Mode) {
	d.shared[thread] = false
	for i := range 2 {
		if d.numbers[i] == uint64(thread+1) {
			d.numbers[i] = 0
		}
	}
	if !slices.Contains(d.shared, true) {
		d.numbers[5] = 0
	}
	switch mode {
	case s:
		d.shared[thread] = true
		d.numbers[5] = min(d.numbers[5]+1, modes.Batch)
	case u:
		d.numbers[0] = uint64(thread + 1)
	case x:
		d.numbers[1] = uint64(thread + 1)
	}
}

// run does a move with a free guard, and returns its result, and whether it waits.
func (d *direct) run(k kind, mode api.Mode) (result uint64, waits bool) {
	plain := uint64(2*d.thread + 1)
	d.store(d.word(d.thread, 0, 0), 0)
	d.store(d.word(d.thread, 0, 1), 1)
	d.note(d.m.Do(api.Access{Kind: api.AccessSwap, Word: d.at, After: plain}))
	before := [2]uint64{d.load(d.at + 1), d.load(d.at + 2)}
	if !says(before, d.n.Threads()) {
		panic(api.ErrMalformed)
	}
	for t := range d.shared {
		d.shared[t] = before[0]>>t%2 == 1
	}
	for i := range d.numbers {
		d.numbers[i] = before[1] >> (8 * i) % 256
	}
	result, waits, woken := d.happens(k, mode)
	after := [2]uint64{}
	for t, is := range d.shared {
		if is {
			after[0] += 1 << t
		}
	}
	for i, v := range d.numbers {
		after[1] += v << (8 * i)
	}
	for i := range after {
		if after[i] != before[i] {
			d.store(d.at+1+i, after[i])
		}
	}
	for _, t := range woken {
		d.store(d.word(t, 1, 1), 0)
	}
	d.load(d.word(d.thread, 0, 0))
	d.note(d.m.Do(api.Access{Kind: api.AccessCAS, Word: d.at, Before: plain, After: 0}))
	if waits {
		return result, d.load(d.word(d.thread, 1, 1)) != 0
	}
	return result, false
}

// happens does what comes between loading and storing both words, and returns the result, whether the thread waits, and who is woken.
func (d *direct) happens(k kind, mode api.Mode) (result uint64, waits bool, woken []int) {
	me := uint64(d.thread + 1)
	isS, isU, isX, wants := d.shared[d.thread], d.numbers[0] == me, d.numbers[1] == me, d.numbers[2] == me
	switch {
	case k == toGet && (isS || isU || isX || wants):
		return 0, false, nil
	case k == toGet && d.numbers[3] == 0 && d.numbers[2] == 0 && modes.Goes(mode, d.holds(), int(d.numbers[5]), false):
		d.give(d.thread, mode)
		return 1, false, nil
	case k == toGet:
		d.store(d.word(d.thread, 1, 2), uint64(mode))
		d.store(d.word(d.thread, 1, 0), 0)
		d.store(d.word(d.thread, 1, 1), 1)
		ref := uint64(2*d.thread + 2)
		if d.numbers[3] == 0 {
			d.numbers[3] = ref
		} else {
			d.store(d.n.Base()+3*int(d.numbers[4]-1), ref)
		}
		d.numbers[4] = ref
		return 1, true, nil
	case k == toGiveBack && (!isS && !isU && !isX || wants):
		return 0, false, nil
	case k == toGiveBack:
		d.give(d.thread, api.ModeNone)
		return 1, false, d.handOn()
	case wants || !(isU && (mode == x || mode == s) || isX && (mode == u || mode == s)):
		return 0, false, nil
	case isU && mode == x && slices.Contains(d.shared, true):
		d.numbers[2] = me
		d.store(d.word(d.thread, 1, 1), 1)
		return 1, true, nil
	case isU && mode == x:
		d.give(d.thread, x)
		return 1, false, nil
	}
	d.give(d.thread, mode)
	return 1, false, d.handOn()
}

// handOn hands the latch on, and returns who is woken.
func (d *direct) handOn() (woken []int) {
	if d.numbers[2] > 0 {
		if slices.Contains(d.shared, true) {
			return nil
		}
		t := int(d.numbers[2] - 1)
		d.give(t, x)
		d.numbers[2] = 0
		return []int{t}
	}
	for d.numbers[3] > 0 {
		t, first := int(d.numbers[3]/2-1), d.numbers[3]
		mode := d.load(d.word(t, 1, 2))
		if mode < 1 || mode > 3 {
			panic(api.ErrMalformed)
		}
		if !modes.Goes(api.Mode(mode), d.holds(), int(d.numbers[5]), d.numbers[4] != first) {
			break
		}
		if first == d.numbers[4] {
			d.numbers[3], d.numbers[4] = 0, 0
		} else {
			next := d.load(d.word(t, 1, 0))
			if next == 0 || next%2 == 1 || next > uint64(2*d.n.Threads()) {
				panic(api.ErrMalformed)
			}
			d.numbers[3] = next
		}
		d.give(t, api.Mode(mode))
		woken = append(woken, t)
	}
	return woken
}

// end is how a move ends: with a result, with waiting, or with a panic.
type end struct {
	result uint64
	waits  bool
	why    any
}

// whole runs a move directly, and returns its end.
func (d *direct) whole(k kind, mode api.Mode) (how end) {
	defer func() {
		if how.why = recover(); how.why != nil {
			how.result, how.waits = 0, false
		}
	}()
	how.result, how.waits = d.run(k, mode)
	if how.waits {
		how.result = 0
	}
	return how
}

// wantDirect checks that a move makes the accesses that it makes directly, and ends likewise.
func (g ground) wantDirect(k kind, thread int, mode api.Mode) end {
	g.Helper()
	d := &direct{m: g.m.Copy(), n: g.n, at: g.at, thread: thread, shared: make([]bool, g.n.Threads())}
	how := d.whole(k, mode)
	if how.why == api.ErrMalformed {
		d.did = d.did[:len(d.did)-1] // the step that loads a wrong word is none
	}
	p := []func() *Move{func() *Move { return g.acquire(thread, mode) }, func() *Move { return g.release(thread) }, func() *Move { return g.move(thread, mode) }}[k]()
	waits := false
	for i, want := range d.did {
		var a api.Access
		if waits || p.Done() {
			g.Fatal(i, "too early", waits, p.Result())
		}
		if waits, a = g.step(p); a != want {
			g.Fatal(i, a, want)
		}
	}
	if how.why == tooLong {
		return how
	}
	if how.why != nil {
		wantError(g.T, p, g.m, how.why.(api.Errno))
	} else if waits != how.waits || p.Done() == how.waits || p.Result() != how.result {
		g.Fatal(waits, p.Done(), p.Result(), how)
	}
	if !g.m.Same(d.m) {
		g.Fatal("other words")
	}
	return how
}

// maker makes latches in which anything may be that both words can say.
type maker struct {
	*rand.Rand
	g ground
}

// made returns an arena with a latch of some threads, of which everybody may wait, also if it holds it.
func (r maker) made(t *testing.T) ground {
	threads := 1 + r.Intn(5)
	base := 3 * r.Intn(2)
	g := ground{t, arena(t, 40), nodes(t, base, threads), base + 6*threads}
	if base > 0 && r.Intn(2) == 0 {
		g.at = 0
	}
	for w := range 40 {
		g.set(uint64(w), uint64(r.Intn(5)))
	}
	l := nothing()
	holders := r.Perm(threads)
	switch r.Intn(5) {
	case 0, 1, 2:
		if many := r.Intn(threads + 1); many > 0 {
			l.Shared, l.Group = slices.Sorted(slices.Values(holders[:many])), r.Intn(5)
		}
		if len(l.Shared) < threads && r.Intn(2) == 0 {
			l.Update = holders[threads-1]
		}
	case 3:
		l.Exclusive = holders[0]
	}
	if l.Update >= 0 && r.Intn(2) == 0 {
		l.Wants = l.Update
	}
	queue := r.Perm(threads)[:r.Intn(threads+1)]
	first, last := -1, -1
	for i, t := range queue {
		g.set(uint64(g.n.Mode(2*t+1)), uint64(1+r.Intn(3)))
		if last = 2*t + 1; i == 0 {
			first = last
		} else {
			g.set(uint64(g.n.Next(2*queue[i-1]+1)), uint64(last+1))
		}
	}
	w, e := Pack(l, first, last)
	if e != api.OK {
		t.Fatal(l, first, last)
	}
	g.set(uint64(g.at), 0, uint64(g.at+1), w[0], uint64(g.at+2), w[1])
	return g
}

// P9.4: what a move does in a latch in which anything may be, access by access, held against the chapter's steps done one after the other.
func TestDirect(t *testing.T) {
	r := maker{Rand: rand.New(rand.NewSource(9))}
	seen := map[end]int{}
	for range 20000 {
		g := r.made(t)
		if r.Intn(6) == 0 {
			w := g.n.Base() + r.Intn(g.n.Len())
			g.set(uint64(w), []uint64{0, 1, 2, 3, 4, 6, 99, 1 << 32, 1<<32 + 1, 1<<63 + 2}[r.Intn(10)])
		}
		if r.Intn(40) == 0 {
			g.set(uint64(g.at+1+r.Intn(2)), r.Uint64()>>r.Intn(64))
		}
		seen[g.wantDirect(kind(r.Intn(3)), r.Intn(g.n.Threads()), api.Mode(1+r.Intn(3)))]++
		if t.Failed() {
			return
		}
	}
	t.Log(seen)
	if len(seen) < 4 {
		t.Error("something never happens")
	}
}
