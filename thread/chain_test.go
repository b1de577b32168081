package thread

import (
	"testing"

	"ticketline/api"
	"ticketline/mem"
)

// adder returns a code that adds to a word, in three steps, and ends with what it becomes.
func adder(t *testing.T, w int, v uint64) *Code {
	t.Helper()
	return code(t, loads(0, w), adds(0, v), stores(0, w))
}

// P12.2: the chapter's example.
func TestExampleChain(t *testing.T) {
	m := arena(t, 1, 0, 0, 0)
	toEnd(t, chained(t, exampleA(t), exampleB(t)), m, 6, 9)
	wantWords(t, m, 2, 0, 0, 0)
	if p, e := Chain(); p != nil || e != api.ErrArg {
		t.Error(e)
	}
}

// P12.2: one after the other, in order, each with its own steps; the result is that of the last one alone.
func TestChainSteps(t *testing.T) {
	m := arena(t, 5, 0, 9)
	p := chained(t, code(t, swaps(0, 0), ends(0)), code(t, awaits(1, 1), stores(0, 2), sets(0, 4)), code(t, loads(1, 0), ends(1)))
	none := api.Access{}
	wait := func() {
		for range 2 {
			o, _ := mem.NewOnce(m)
			if waits, e := p.Step(o); !waits || e != api.OK || o.Access() != load(1, 0) {
				t.Error(waits, e, o.Access())
			}
		}
	}
	for i, want := range []api.Access{{Kind: api.AccessSwap, Before: 5}, none, load(1, 1), store(2, 9, 0), none, load(0, 0)} {
		if i == 2 {
			wait()
			m.Store(1, 1)
		}
		o, _ := mem.NewOnce(m)
		if waits, e := p.Step(o); waits || e != api.OK || o.Access() != want || p.Done() || p.Result() != 0 {
			t.Error(i, waits, e, o.Access(), p.Done(), p.Result())
		}
	}
	m.Store(0, 8)
	toEnd(t, p, m, 1, 0)
}

// P12.2: programs go on from where they are, and those that have ended are left out, wherever they stand, with their results, but for that of the last one.
func TestChainLeavesOut(t *testing.T) {
	half := func() *Code {
		c := adder(t, 0, 2)
		c.Step(arena(t, 30))
		return c
	}
	for i, c := range []struct {
		l      []api.Program
		steps  int
		result uint64
		word   uint64
	}{
		{[]api.Program{half()}, 2, 32, 32},
		{[]api.Program{adder(t, 0, 1), half()}, 5, 32, 32},
		{[]api.Program{half(), adder(t, 0, 1)}, 5, 33, 33},
		{[]api.Program{half(), ended(t, 3)}, 2, 3, 32},
		{[]api.Program{ended(t, 3), half()}, 2, 32, 32},
		{[]api.Program{half(), ended(t, 3), ended(t, 4), adder(t, 0, 1), ended(t, 0)}, 5, 0, 33},
		{[]api.Program{ended(t, 3)}, 0, 3, 7},
		{[]api.Program{ended(t, 3), ended(t, 4), ended(t, 5)}, 0, 5, 7},
		{[]api.Program{chained(t, ended(t, 3)), chained(t, half(), ended(t, 4))}, 2, 4, 32},
		{[]api.Program{chained(t, half(), half()), chained(t, ended(t, 4))}, 4, 4, 32},
		{[]api.Program{chained(t, chained(t, adder(t, 0, 1), adder(t, 0, 1)), adder(t, 0, 1)), adder(t, 0, 1)}, 12, 11, 11},
	} {
		m := arena(t, 7)
		p := chained(t, c.l...)
		if c.steps == 0 && (!p.Done() || p.Result() != c.result) {
			t.Error(i, p.Done(), p.Result())
		}
		toEnd(t, p, m, c.steps, c.result)
		wantWords(t, m, c.word)
		wantError(t, p, m, api.ErrEnd)
		wantError(t, p, nil, api.ErrNil)
	}
}

// P12.2: the programs are copied: none of the list makes a step, and no step of them is one of the chain, not even of the same program twice.
func TestChainCopies(t *testing.T) {
	m := arena(t, 0)
	a := adder(t, 0, 1)
	was := dump(a)
	l := []api.Program{a, a}
	p := chained(t, l...)
	l[1] = exampleB(t)
	toEnd(t, p, m, 6, 2)
	if dump(a) != was {
		t.Error("a program of the list has gone on")
	}
	q := chained(t, a, a)
	toEnd(t, a, m, 3, 3)
	toEnd(t, q, m, 6, 5)
	// likewise programs of somebody else
	o := after(2, 0)
	p = chained(t, o, o)
	toEnd(t, p, m, 4, 2)
	if o.calls != 0 {
		t.Error(o.calls)
	}
}

// P12.2: a copy, made before any step, goes on as the chain would have, and neither of them changes the other.
func TestChainCopy(t *testing.T) {
	for n := range 13 {
		m := arena(t, 0, 0)
		p := chained(t, adder(t, 0, 1), after(2, 1), chained(t, adder(t, 1, 5), after(1, 0)), adder(t, 0, 4))
		for range n {
			p.Step(m)
		}
		was, other := dump(p), m.Copy()
		c := p.Copy()
		if c.Done() != p.Done() || c.Result() != p.Result() || c.Done() != (n == 12) {
			t.Fatal(n)
		}
		toEnd(t, c, other, 12-n, 5)
		if dump(p) != was {
			t.Fatal(n, "changed with its copy")
		}
		is := dump(c)
		toEnd(t, p, m, 12-n, 5)
		if dump(c) != is || !m.Same(other) {
			t.Fatal(n, "goes on in another way")
		}
		wantWords(t, m, 5, 7)
	}
}

// P12.2: a nil program, or one whose Copy is nil, wherever it stands, also if Copy panics.
func TestChainNil(t *testing.T) {
	a, none := adder(t, 0, 1), (*Code)(nil)
	nothing := func(*odd) api.Program { return nil }
	for i, wrong := range []api.Program{nil, none, &Code{}, &odd{copied: nothing}, struct{ api.Program }{}, (*odd)(nil)} {
		for j, l := range [][]api.Program{{wrong}, {wrong, a}, {a, wrong}, {ended(t, 2), wrong, a}} {
			if p, e := Chain(l...); p != nil || e != api.ErrNil {
				t.Error(i, j, e)
			}
		}
	}
	if p, e := Chain([]api.Program{}...); p != nil || e != api.ErrArg {
		t.Error(e)
	}
}

// P12.2: the errors of the program that runs, at each of its steps; the chain stays as it is, and goes on when they are over.
func TestChainErrors(t *testing.T) {
	m := arena(t, 0, 0)
	for _, p := range []api.Program{chained(t, adder(t, 1, 1), adder(t, 0, 2)), chained(t, chained(t, adder(t, 1, 1)), adder(t, 0, 2))} {
		for n := range 6 {
			wantError(t, p, nil, api.ErrNil)
			if n != 1 && n != 4 {
				wantError(t, p, &failing{Mem: m, e: api.ErrFull}, api.ErrFull)
				wantError(t, p, struct{ api.Memory }{}, api.ErrNil)
			}
			if n == 0 {
				wantError(t, p, arena(t, 0), api.ErrRange)
			}
			p.Step(m)
		}
		if !p.Done() {
			t.Error("not at its end")
		}
	}
	wantWords(t, m, 4, 2)
}

// P12.2: a step that returns an error changes nothing of a chain, even if the program that runs changes before it returns one, or panics.
func TestChainErrorsOfOthers(t *testing.T) {
	m := arena(t, 0)
	fails := true
	wrong := &odd{step: func(o *odd, m api.Memory) (bool, api.Errno) {
		if fails {
			return true, api.ErrCheck
		}
		return o.calls == 1, api.OK
	}, done: func(o *odd) bool { return o.calls >= 2 }}
	p := chained(t, chained(t, adder(t, 0, 1), wrong), ended(t, 6))
	for range 3 {
		p.Step(m)
	}
	wantError(t, p, m, api.ErrCheck)
	fails = false
	if waits, e := p.Step(m); !waits || e != api.OK {
		t.Error(waits, e)
	}
	toEnd(t, p, m, 1, 6)
	panics := &odd{step: func(*odd, api.Memory) (bool, api.Errno) { panic("no") }}
	wantError(t, chained(t, panics), m, api.ErrNil)
}

// P1: programs that panic when they are asked, or have no copy any more.
func TestChainPanics(t *testing.T) {
	m := arena(t, 0)
	asked := &odd{step: func(*odd, api.Memory) (bool, api.Errno) { return false, api.OK }, done: func(*odd) bool { panic("no") }}
	p := chained(t, asked, adder(t, 0, 1))
	for range 3 {
		if waits, e := p.Step(m); waits || e != api.OK || p.Done() || p.Result() != 0 {
			t.Error(waits, e)
		}
	}
	once := &odd{copied: func(o *odd) api.Program { c := *o; c.copied = func(*odd) api.Program { return nil }; return &c }}
	p = chained(t, once, adder(t, 0, 1))
	wantError(t, p, m, api.ErrNil)
	if c := p.Copy(); c != nil {
		t.Error("a copy without its programs")
	}
	p = chained(t, &without{})
	if !p.Done() || p.Result() != 0 {
		t.Error(p.Done(), p.Result())
	}
}

// without is a program that has ended, and panics when it is asked for its result.
type without struct{ api.Program }

func (w *without) Done() bool        { return true }
func (w *without) Copy() api.Program { return w }

// P1: chains of chains, of many levels, and of many programs.
func TestLongChains(t *testing.T) {
	m := arena(t, 0)
	var p api.Program = adder(t, 0, 1)
	for range 200 {
		p = chained(t, p)
	}
	toEnd(t, p.Copy(), m, 3, 1)
	toEnd(t, p, m, 3, 2)
	l := make([]api.Program, 3000)
	for i := range l {
		l[i] = adder(t, 0, 1)
	}
	toEnd(t, chained(t, l...), m, 9000, 3002)
}
