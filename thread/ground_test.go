package thread

import (
	"fmt"
	"math"
	"slices"
	"testing"

	"ticketline/api"
	"ticketline/mem"
)

const most = math.MaxUint64

// arena returns an arena with these words.
func arena(t *testing.T, words ...uint64) *mem.Mem {
	t.Helper()
	m, e := mem.New(len(words))
	if m == nil || e != api.OK {
		t.Fatal(e)
	}
	for w, v := range words {
		m.Store(w, v)
	}
	return m
}

// wantWords checks all words of an arena.
func wantWords(t *testing.T, m *mem.Mem, want ...uint64) {
	t.Helper()
	if l, e := m.Words(0, m.Len()); e != api.OK || !slices.Equal(l, want) {
		t.Errorf("words %v, %v; want %v", l, e, want)
	}
}

// in returns an instruction.
func in(kind api.InstrKind, r, w int, v uint64) api.Instr {
	return api.Instr{Kind: kind, R: r, W: w, V: v}
}

// The instructions, with those of their parts that they need.

func loads(r, w int) api.Instr               { return in(api.InstrLoad, r, w, 0) }
func stores(r, w int) api.Instr              { return in(api.InstrStore, r, w, 0) }
func swaps(r, w int) api.Instr               { return in(api.InstrSwap, r, w, 0) }
func cas(r, w int, v uint64) api.Instr       { return in(api.InstrCAS, r, w, v) }
func awaits(w int, v uint64) api.Instr       { return in(api.InstrAwait, 0, w, v) }
func sets(r int, v uint64) api.Instr         { return in(api.InstrSet, r, 0, v) }
func adds(r int, v uint64) api.Instr         { return in(api.InstrAdd, r, 0, v) }
func jumps(r int, v uint64, w int) api.Instr { return in(api.InstrJump, r, w, v) }
func ends(r int) api.Instr                   { return in(api.InstrEnd, r, 0, 0) }

// The accesses that steps make.

func load(w int, v uint64) api.Access {
	return api.Access{Kind: api.AccessLoad, Word: w, Before: v, After: v}
}

func store(w int, was, v uint64) api.Access {
	return api.Access{Kind: api.AccessStore, Word: w, Before: was, After: v}
}

// code returns a program of instructions.
func code(t *testing.T, l ...api.Instr) *Code {
	t.Helper()
	c, e := NewCode(l)
	if c == nil || e != api.OK {
		t.Fatal(l, e)
	}
	return c
}

// chained returns a chain of programs.
func chained(t *testing.T, l ...api.Program) api.Program {
	t.Helper()
	p, e := Chain(l...)
	if p == nil || e != api.OK {
		t.Fatal(e)
	}
	return p
}

// exampleA and exampleB are the codes of the chapter's examples.
func exampleA(t *testing.T) *Code { return code(t, loads(1, 0), adds(1, 1), stores(1, 0), ends(1)) }
func exampleB(t *testing.T) *Code { return code(t, awaits(0, 2), sets(0, 9)) }

// ended returns a program that has ended with a result.
func ended(t *testing.T, result uint64) *Code {
	t.Helper()
	c := code(t, sets(0, result))
	toEnd(t, c, arena(t, 0), 1, result)
	return c
}

// toEnd runs a program, which does not wait, to its end, and checks how many steps it makes, and its result.
func toEnd(t *testing.T, p api.Program, m api.Memory, steps int, result uint64) {
	t.Helper()
	n := 0
	for ; !p.Done() && n <= steps; n++ {
		if p.Result() != 0 {
			t.Error(n, "has a result before its end:", p.Result())
		}
		if waits, e := p.Step(m); waits || e != api.OK {
			t.Fatal(n, waits, e)
		}
	}
	if n != steps || !p.Done() || p.Result() != result {
		t.Error(n, "steps, and the result", p.Result())
	}
}

// finish runs a program to its end, if it comes to one.
func finish(t *testing.T, p api.Program, m api.Memory) {
	t.Helper()
	for n := 0; !p.Done(); n++ {
		if _, e := p.Step(m); e != api.OK || n > 1000 {
			t.Fatal(n, e)
		}
	}
}

// machine returns a machine on an arena with these words, without threads.
func machine(t *testing.T, words ...uint64) *Machine {
	t.Helper()
	m, e := New(arena(t, words...))
	if m == nil || e != api.OK {
		t.Fatal(e)
	}
	return m
}

// with adds threads that run programs.
func (m *Machine) with(t *testing.T, l ...api.Program) *Machine {
	t.Helper()
	for _, p := range l {
		many := m.Threads()
		if n, e := m.Add(p); n != many || e != api.OK {
			t.Fatal(n, e)
		}
	}
	return m
}

// run runs a machine by a schedule.
func run(t *testing.T, m *Machine, picks ...int) []api.Did {
	t.Helper()
	l, e := m.Run(picks)
	if e != api.OK {
		t.Fatal(picks, e)
	}
	return l
}

// dump returns all that a program, or a list of them, has, as text.
func dump(x any) string {
	switch x := x.(type) {
	case *Code:
		return fmt.Sprintf("%+v", *x)
	case *chain:
		s := fmt.Sprint(x.result)
		for _, p := range x.programs {
			s += " (" + dump(p) + ")"
		}
		return s
	}
	return fmt.Sprintf("%+v", x)
}

// state returns all that a machine has, as text, as its functions tell it, and as it keeps it.
func state(m *Machine) string {
	words, _ := m.Mem().Words(0, m.Mem().Len())
	s := fmt.Sprint(words)
	for t := range m.Threads() {
		s += fmt.Sprintln(m.Done(t), m.Result(t), m.Steps(t), m.Looks(t), dump(m.threads[t].program), dump(m.Program(t)))
	}
	return s
}

// odd is a program of somebody else, whose methods are given as functions; its copies share what these refer to, but not calls.
type odd struct {
	step   func(o *odd, m api.Memory) (bool, api.Errno)
	done   func(o *odd) bool
	copied func(o *odd) api.Program
	calls  int // of Step
}

func (o *odd) Step(m api.Memory) (bool, api.Errno) { o.calls++; return o.step(o, m) }
func (o *odd) Done() bool                          { return o.done != nil && o.done(o) }
func (o *odd) Result() uint64                      { return uint64(o.calls) }
func (o *odd) Copy() api.Program {
	if o.copied != nil {
		return o.copied(o)
	}
	c := *o
	return &c
}

// after returns a program of somebody else that ends after some steps, each of which adds 1 to a word by a store of what it knows.
func after(steps, word int) *odd {
	return &odd{
		step: func(o *odd, m api.Memory) (bool, api.Errno) { return false, m.Store(word, uint64(o.calls)) },
		done: func(o *odd) bool { return o.calls >= steps },
	}
}

// failing is an arena whose accesses have an error, with values that must not be used; it counts them.
type failing struct {
	*mem.Mem
	e    api.Errno
	made int
}

func (f *failing) Load(w int) (uint64, api.Errno)               { f.made++; return 3, f.e }
func (f *failing) Store(w int, v uint64) api.Errno              { f.made++; return f.e }
func (f *failing) CAS(w int, old, new uint64) (bool, api.Errno) { f.made++; return true, f.e }
func (f *failing) Swap(w int, v uint64) (uint64, api.Errno)     { f.made++; return 3, f.e }
