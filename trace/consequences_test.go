package trace

import (
	"math/rand"
	"slices"
	"testing"

	"ticketline/api"
	"ticketline/latch"
	"ticketline/mcs"
	"ticketline/mem"
	"ticketline/qnode"
	"ticketline/thread"
)

// arena returns an arena with these words.
func arena(t *testing.T, words ...uint64) *mem.Mem {
	t.Helper()
	m, e := mem.New(len(words))
	if e != api.OK {
		t.Fatal(e)
	}
	for w, v := range words {
		m.Store(w, v)
	}
	return m
}

// machine returns a machine on an arena with these words, whose threads run programs.
func machine(t *testing.T, words []uint64, l ...api.Program) *thread.Machine {
	t.Helper()
	m, e := thread.New(arena(t, words...))
	if e != api.OK {
		t.Fatal(e)
	}
	for _, p := range l {
		if _, e := m.Add(p); e != api.OK {
			t.Fatal(e)
		}
	}
	return m
}

// run runs a machine by a schedule, and returns what it has done, which fits its words from before, and makes of them those afterwards.
func run(t *testing.T, m *thread.Machine, picks []int) []api.Did {
	t.Helper()
	before := m.Mem()
	start, _ := before.Words(0, before.Len())
	l, e := m.Run(picks)
	if e != api.OK {
		t.Fatal(e)
	}
	now, _ := m.Mem().Words(0, before.Len())
	if !Valid(l) {
		t.Fatal("no trace:", l)
	}
	wantCheck(t, start, l, -1, now...)
	return l
}

// chained returns a chain of programs.
func chained(t *testing.T, l ...api.Program) api.Program {
	t.Helper()
	p, e := thread.Chain(l...)
	if e != api.OK {
		t.Fatal(l, e)
	}
	return p
}

// byChance returns a schedule of some threads.
func byChance(r *rand.Rand, threads, length int) []int {
	picks := make([]int, length)
	for i := range picks {
		picks[i] = r.Intn(threads)
	}
	return picks
}

// codeByChance returns a code on four words, which waits now and then.
func codeByChance(t *testing.T, r *rand.Rand) *thread.Code {
	t.Helper()
	kinds := []api.InstrKind{api.InstrLoad, api.InstrStore, api.InstrSwap, api.InstrCAS, api.InstrAwait, api.InstrAwait, api.InstrSet, api.InstrAdd, api.InstrJump, api.InstrEnd}
	l := make([]api.Instr, 4+r.Intn(5))
	for i := range l {
		l[i] = api.Instr{Kind: kinds[r.Intn(len(kinds))], R: r.Intn(4), W: r.Intn(4), V: uint64(r.Intn(2))}
	}
	c, e := thread.NewCode(l)
	if e != api.OK {
		t.Fatal(e)
	}
	return c
}

// P13.4: what machines with codes that come by chance do is a trace that fits their words, and Replay returns these afterwards.
func TestMachines(t *testing.T) {
	r := rand.New(rand.NewSource(134))
	met, let := 0, 0
	for range 3000 {
		threads := 1 + r.Intn(4)
		var l []api.Program
		for range threads {
			l = append(l, codeByChance(t, r))
		}
		m := machine(t, words(uint64(r.Intn(2)), 0, 1, 0), l...)
		did := run(t, m, byChance(r, threads, 80))
		wantOfEach(t, did)
		wantLetGo(t, did)
		for _, w := range directWaits(did) {
			met++
			if w.To >= 0 {
				let++
			}
		}
		for n := range threads {
			its, _ := Of(did, n)
			looks := len(indices(its, func(i int) bool { return its[i].Waits }))
			if len(its) != m.Steps(n) || looks != m.Looks(n) {
				t.Fatal(n, its, m.Steps(n), m.Looks(n))
			}
		}
	}
	if met < 1000 || let < 100 {
		t.Error(met, let)
	}
}

// P13.4, P0.3: under a plain lock, whoever has waited for it was let go on by the one that came before it.
func TestWaitsForALock(t *testing.T) {
	const threads = 6
	n, _ := qnode.New(1, threads)
	r := rand.New(rand.NewSource(3))
	for range 200 {
		var l []api.Program
		for i := range threads {
			node, _ := n.Of(i, qnode.Plain)
			get, _ := mcs.NewAcquire(n, 0, node)
			giveBack, _ := mcs.NewRelease(n, 0, node)
			l = append(l, chained(t, get, giveBack))
		}
		m := machine(t, make([]uint64, 1+n.Len()), l...)
		did := run(t, m, byChance(r, threads, 600))
		wantLetGo(t, did)
		var came []int
		for _, d := range did {
			if d.Access.Kind == api.AccessSwap {
				came = append(came, d.Thread)
			}
		}
		waits, e := Waits(did)
		if e != api.OK || len(came) != threads || !m.Done(0) {
			t.Fatal(e, came)
		}
		for _, w := range waits {
			node, _ := n.Of(w.Thread, qnode.Plain)
			if w.Word == n.Wait(node) && w.By != came[slices.Index(came, w.Thread)-1] {
				t.Fatal(w, came)
			}
		}
	}
}

// P13.4, P0.3: a latch that is held exclusively by one after the other: each of those that have waited was let go on by somebody else.
func TestWaitsForALatch(t *testing.T) {
	const threads = 4
	n, _ := qnode.New(3, threads)
	r := rand.New(rand.NewSource(4))
	many := 0
	for range 100 {
		var l []api.Program
		for i := range threads {
			get, _ := latch.NewAcquire(n, 0, i, []api.Mode{api.ModeShared, api.ModeUpdate, api.ModeExclusive}[r.Intn(3)])
			giveBack, _ := latch.NewRelease(n, 0, i)
			l = append(l, chained(t, get, giveBack))
		}
		did := run(t, machine(t, make([]uint64, 3+n.Len()), l...), byChance(r, threads, 600))
		wantOfEach(t, did)
		wantLetGo(t, did)
		waits, _ := Waits(did)
		for _, w := range waits {
			if w.To < 0 || w.By == w.Thread {
				t.Fatal(w, did)
			}
		}
		many += len(waits)
	}
	if many < 100 {
		t.Error(many)
	}
}

// P13.4: if a trace fits, and what a thread does next after a wait is a load of the same word with another value, it was let go on.
func TestLetGo(t *testing.T) {
	r := rand.New(rand.NewSource(44))
	met := 0
	for range 5000 {
		start := make([]uint64, 3)
		l, after := play(r, start, 3, 40)
		wantCheck(t, start, l, -1, after...)
		met += wantLetGo(t, l)
		wantOfEach(t, l)
	}
	if met < 200 {
		t.Error(met)
	}
}

// wantLetGo checks the waits of a trace that fits against what each thread does next, and returns how many next things were loads of another value.
func wantLetGo(t *testing.T, l []api.Did) (met int) {
	t.Helper()
	waits, e := Waits(l)
	if e != api.OK {
		t.Fatal(e)
	}
	for _, w := range waits {
		next := w.From
		for next < len(l) && (l[next].Thread != w.Thread || atWord(l[next], w.Word)) {
			next++
		}
		if next == len(l) {
			continue
		}
		a := l[next].Access
		if a.Kind == api.AccessLoad && a.Word == w.Word && a.Before != l[w.From].Access.Before {
			met++
			if w.To < 0 || w.By < 0 {
				t.Fatal(l, w)
			}
		}
	}
	return met
}

// wantOfEach checks that the waits of each thread are those of what it alone has done, but for the indices, To and By.
func wantOfEach(t *testing.T, l []api.Did) {
	t.Helper()
	waits, _ := Waits(l)
	for n := range 6 {
		its, e := Of(l, n)
		at := indices(l, func(i int) bool { return l[i].Thread == n })
		alone, f := Waits(its)
		if e != api.OK || f != api.OK || !Valid(its) {
			t.Fatal(l, n, e, f)
		}
		for i, w := range alone {
			if w.To != -1 || w.By != -1 {
				t.Fatal(its, w)
			}
			alone[i].From = at[w.From]
		}
		var want []api.Waited
		for _, w := range waits {
			if w.Thread == n {
				w.To, w.By = -1, -1
				want = append(want, w)
			}
		}
		if !slices.Equal(alone, want) {
			t.Fatal(l, n, alone, want)
		}
	}
}

// P1: no call panics, whatever was done.
func FuzzCalls(f *testing.F) {
	f.Add([]byte{1, 1, 5, 0, 0, 1, 0, 2, 5, 0, 1, 0, 1, 1, 5, 1, 1, 0}, 6, 5, 1)
	f.Add([]byte{0, 0, 0, 0, 0, 2, 0, 0, 0, 0, 0, 0}, 1, 0, 0)
	f.Add([]byte{255, 4, 255, 1, 2, 3}, 0, -1, 64)
	f.Add([]byte{0, 5, 0, 1, 2, 3}, 65537, 65536, -1)
	f.Add([]byte{}, -1, 1<<62, -1<<62)
	f.Fuzz(func(t *testing.T, b []byte, many, w, n int) {
		l := make([]api.Did, len(b)/6)
		for i := range l {
			x := b[6*i : 6*i+6]
			l[i] = api.Did{Thread: int(int8(x[0])), Access: api.Access{Kind: api.AccessKind(x[1] % 7), Word: int(int8(x[2])), Before: uint64(x[3]), After: uint64(x[4])}, Waits: x[5]&1 > 0, Ended: x[5]&2 > 0}
		}
		is := directValid(l)
		if Valid(l) != is {
			t.Fatal(l, !is)
		}
		start := make([]uint64, max(0, min(many, 70000)))
		_, e := Waits(l)
		_, f := Changes(l, w)
		_, g := Of(l, n)
		at, h := Check(start, l)
		after, k := Replay(start, l)
		if !is && (e == api.OK || f == api.OK || g == api.OK || h == api.OK || k == api.OK) {
			t.Fatal(e, f, g, h, k)
		}
		if (k == api.OK) != (h == api.OK && at == -1) || k == api.OK && len(after) != len(start) {
			t.Fatal(at, h, len(after), k)
		}
		if is {
			wantWaits(t, l, directWaits(l)...)
		}
	})
}
