package thread

import (
	"math"
	"slices"
	"testing"

	"ticketline/api"
	"ticketline/mem"
)

// begun returns a code with these registers, and an instruction as its next one, with another one behind it.
func begun(t *testing.T, registers [Registers]uint64, i api.Instr) *Code {
	t.Helper()
	c := code(t, i, sets(0, 50))
	c.registers = registers
	return c
}

func TestPrograms(t *testing.T) {
	var _ api.Program = (*Code)(nil)
}

// P12.1: what each instruction does with registers and words.
func TestInstructions(t *testing.T) {
	start := [Registers]uint64{10, 11, 12, most}
	with := func(r int, v uint64) [Registers]uint64 {
		l := start
		l[r] = v
		return l
	}
	for i, c := range []struct {
		in     api.Instr
		after  [Registers]uint64
		access api.Access
	}{
		{loads(0, 2), with(0, 7), load(2, 7)},
		{loads(3, 0), with(3, 5), load(0, 5)},
		{in(api.InstrLoad, 1, 1, 99), with(1, 6), load(1, 6)},
		{stores(0, 0), start, store(0, 5, 10)},
		{stores(3, 2), start, store(2, 7, most)},
		{in(api.InstrStore, 2, 1, 99), start, store(1, 6, 12)},
		{swaps(1, 2), with(1, 7), api.Access{Kind: api.AccessSwap, Word: 2, Before: 7, After: 11}},
		{in(api.InstrSwap, 3, 0, 99), with(3, 5), api.Access{Kind: api.AccessSwap, Word: 0, Before: 5, After: most}},
		{cas(2, 1, 6), with(2, 1), api.Access{Kind: api.AccessCAS, Word: 1, Before: 6, After: 12}},
		{cas(2, 1, 5), with(2, 0), api.Access{Kind: api.AccessCAS, Word: 1, Before: 6, After: 6}},
		{cas(3, 2, 7), with(3, 1), api.Access{Kind: api.AccessCAS, Word: 2, Before: 7, After: most}},
		{awaits(1, 6), start, load(1, 6)},
		{in(api.InstrAwait, math.MinInt, 0, 5), start, load(0, 5)},
		{sets(0, most), with(0, most), api.Access{}},
		{sets(2, 0), with(2, 0), api.Access{}},
		{in(api.InstrSet, 1, math.MinInt, 4), with(1, 4), api.Access{}},
		{adds(0, 5), with(0, 15), api.Access{}},
		{adds(3, 1), with(3, 0), api.Access{}},
		{adds(3, most), with(3, most-1), api.Access{}},
		{in(api.InstrAdd, 1, math.MaxInt, 0), start, api.Access{}},
		{jumps(0, 10, 1), start, api.Access{}},
		{jumps(3, 9, 0), start, api.Access{}},
	} {
		m := arena(t, 5, 6, 7)
		o, _ := mem.NewOnce(m)
		p := begun(t, start, c.in)
		if waits, e := p.Step(o); waits || e != api.OK || p.registers != c.after || o.Access() != c.access || p.Done() || p.next != 1 {
			t.Error(i, waits, e, p.registers, o.Access())
		}
		want := []uint64{5, 6, 7}
		if c.access.Kind != api.AccessNone {
			want[c.access.Word] = c.access.After
		}
		wantWords(t, m, want...)
	}
}

// P12.1: all registers are 0 at first.
func TestRegistersAtFirst(t *testing.T) {
	for r := range Registers {
		toEnd(t, code(t, ends(r)), arena(t, 8), 1, 0)
		toEnd(t, code(t, adds(r, 4), ends(r)), arena(t, 8), 2, 4)
		m := arena(t, 8)
		toEnd(t, code(t, swaps(r, 0), ends(r)), m, 2, 8)
		wantWords(t, m, 0)
	}
}

// P12.1: a step that waits changes nothing, as often as it is made.
func TestAwait(t *testing.T) {
	for _, wanted := range []uint64{0, 3, 1 << 63, most} {
		m := arena(t, 1, 5)
		p := code(t, awaits(1, wanted), adds(0, 4))
		was := dump(p)
		for range 3 {
			o, _ := mem.NewOnce(m)
			if waits, e := p.Step(o); !waits || e != api.OK || dump(p) != was || o.Access() != load(1, 5) {
				t.Error(waits, e, o.Access())
			}
		}
		wantWords(t, m, 1, 5)
		m.Store(1, wanted)
		toEnd(t, p, m, 2, 4)
	}
}

// P12.1: with a jump the instruction that it names comes next, wherever it is, if the register is what it says.
func TestJump(t *testing.T) {
	m := arena(t, 0)
	toEnd(t, code(t, jumps(2, 0, 2), sets(0, 1), adds(0, 2), ends(0)), m, 3, 2)
	toEnd(t, code(t, jumps(2, 1, 2), sets(0, 1), adds(0, 2), ends(0)), m, 4, 3)
	toEnd(t, code(t, adds(0, 1), jumps(0, 5, 3), jumps(1, 0, 0), ends(0)), m, 15, 5)
	toEnd(t, code(t, sets(3, most), jumps(3, most, 3), ends(3), sets(0, 6)), m, 3, 6)
	p := code(t, sets(0, 1), jumps(0, 1, 1))
	for range 50 {
		if waits, e := p.Step(m); waits || e != api.OK || p.Done() || p.Result() != 0 {
			t.Fatal(waits, e, p.Done())
		}
	}
	q := code(t, jumps(1, 0, 0))
	for range 50 {
		if waits, e := q.Step(m); waits || e != api.OK || q.Done() {
			t.Fatal(waits, e, q.Done())
		}
	}
}

// P12.1: the end, by an instruction with each register, or behind the last one of any kind, with the register 0.
func TestHowItEnds(t *testing.T) {
	for r := range Registers {
		l := []api.Instr{sets(0, 10), sets(1, 11), sets(2, 12), sets(3, 13)}
		toEnd(t, code(t, append(l, in(api.InstrEnd, r, -1, 99), sets(r, 0))...), arena(t, 0), 5, uint64(10+r))
		toEnd(t, code(t, l...), arena(t, 0), 4, 10)
	}
	for _, last := range []api.Instr{loads(1, 0), stores(1, 0), swaps(1, 0), cas(1, 0, 3), awaits(0, 3), sets(1, 4), adds(1, 4), jumps(1, 6, 0)} {
		toEnd(t, code(t, sets(0, 9), sets(1, 5), last), arena(t, 3), 3, 9)
	}
	toEnd(t, code(t, loads(0, 0)), arena(t, 3), 1, 3)
	toEnd(t, code(t, cas(0, 0, 3)), arena(t, 3), 1, 1)
}

// P12.1: which instructions are allowed.
func TestAllowed(t *testing.T) {
	const register, word, index = 1, 2, 4
	uses := map[api.InstrKind]int{
		api.InstrLoad: register | word, api.InstrStore: register | word, api.InstrSwap: register | word, api.InstrCAS: register | word,
		api.InstrAwait: word, api.InstrSet: register, api.InstrAdd: register, api.InstrJump: register | index, api.InstrEnd: register,
	}
	far := []int{math.MinInt, -1 << 32, -1, 0, 1, 2, 3, 4, 5, 255, 256, api.MaxWords - 1, api.MaxWords, 1 << 32, math.MaxInt}
	for _, kind := range []api.InstrKind{math.MinInt, -1, 0, 1, 2, 3, 4, 5, 6, 7, 8, 9, 10, 11, 1 << 32, math.MaxInt} {
		use, known := uses[kind]
		for _, r := range far {
			for _, w := range far {
				want := known
				if use&register != 0 {
					want = want && r >= 0 && r <= 3
				}
				if use&word != 0 {
					want = want && w >= 0 && w <= 65535
				}
				i := in(kind, r, w, most)
				for many := 1; many <= 4; many += 3 {
					fine := want && (use&index == 0 || w >= 0 && w < many)
					for at := range many {
						l := slices.Repeat([]api.Instr{sets(0, 0)}, many)
						l[at] = i
						if c, e := NewCode(l); (c != nil) != fine || (e == api.OK) != fine || !fine && e != api.ErrArg {
							t.Error(i, many, at, e)
						}
					}
				}
			}
		}
	}
}

// P12.1: how many instructions there may be.
func TestHowMany(t *testing.T) {
	for _, n := range []int{0, 1, 2, 255, 256, 257, 1000} {
		l := slices.Repeat([]api.Instr{adds(0, 1)}, n)
		c, e := NewCode(l)
		if n == 0 || n > 256 {
			if c != nil || e != api.ErrArg {
				t.Error(n, e)
			}
			continue
		}
		toEnd(t, c, arena(t, 0), n, uint64(n))
	}
	if c, e := NewCode(nil); c != nil || e != api.ErrArg {
		t.Error(e)
	}
	l := slices.Repeat([]api.Instr{adds(0, 1)}, 256)
	l[0] = jumps(0, 0, 255)
	toEnd(t, code(t, l...), arena(t, 0), 2, 1)
}

// P12.1: the list of instructions is neither kept nor changed.
func TestInstructionsAreACopy(t *testing.T) {
	l := []api.Instr{sets(1, 3), adds(1, 4), ends(1)}
	was := slices.Clone(l)
	c := code(t, l...)
	d := c.Copy()
	l[1] = adds(1, 5)
	toEnd(t, c, arena(t, 0), 3, 7)
	toEnd(t, d, arena(t, 0), 3, 7)
	l[1] = was[1]
	if !slices.Equal(l, was) {
		t.Error(l)
	}
}

// P12.1: a copy, made before any step, goes on as the program would have, and neither of them changes the other.
func TestCodeCopy(t *testing.T) {
	for n := range 10 {
		m := arena(t, 4, 0)
		p := code(t, loads(1, 0), sets(2, 1), swaps(2, 1), cas(2, 0, 4), adds(1, 3), jumps(1, 7, 7), sets(1, 50), stores(1, 1), adds(3, 2), ends(1))
		for range n {
			p.Step(m)
		}
		was, other := dump(p), m.Copy()
		c := p.Copy()
		if dump(c) != was || c.Done() != p.Done() {
			t.Fatal(n)
		}
		finish(t, c, other)
		if dump(p) != was || c.Result() != 7 {
			t.Fatal(n, c.Result())
		}
		is := dump(c)
		finish(t, p, m)
		if dump(c) != is || dump(p) != is || !m.Same(other) {
			t.Fatal(n, "goes on in another way")
		}
	}
}

// kinds calls a function with codes that are about to make each of the instructions, on an arena with the word 5.
func kinds(t *testing.T, f func(c *Code, m *mem.Mem)) {
	t.Helper()
	for _, i := range []api.Instr{loads(1, 0), stores(1, 0), swaps(1, 0), cas(1, 0, 5), cas(1, 0, 6), awaits(0, 5), awaits(0, 6), sets(1, 4), adds(1, 4), jumps(1, 7, 0), jumps(1, 8, 0), ends(1)} {
		c := code(t, sets(0, 3), sets(1, 7), i)
		m := arena(t, 5)
		c.Step(m)
		c.Step(m)
		f(c, m)
	}
}

// accesses reports whether the next instruction of a code accesses a word.
func accesses(c *Code) bool { return c.instrs[c.next].Kind <= api.InstrAwait }

// wantError checks that a step has an error, again and again, and that the program stays as it is.
func wantError(t *testing.T, p api.Program, m api.Memory, want api.Errno) {
	t.Helper()
	was := dump(p)
	for range 2 {
		if waits, e := p.Step(m); waits || e != want {
			t.Error(waits, e, "and not", want)
		}
	}
	if dump(p) != was {
		t.Error("changed by an error")
	}
}

// P12.1: nil and zero codes, before a nil Memory and ErrEnd.
func TestNoCode(t *testing.T) {
	for i, c := range []*Code{nil, {}} {
		for _, m := range []api.Memory{nil, arena(t, 1), struct{ api.Memory }{}} {
			if waits, e := c.Step(m); waits || e != api.ErrNil {
				t.Error(i, waits, e)
			}
		}
		if !c.Done() || c.Result() != 0 || c.Copy() != nil {
			t.Error(i, c.Done(), c.Result(), c.Copy())
		}
	}
}

// P12.1: a nil Memory at each instruction, also at those without an access, and at the end, where it comes before ErrEnd.
func TestCodeNilMemory(t *testing.T) {
	kinds(t, func(c *Code, m *mem.Mem) {
		wantError(t, c, nil, api.ErrNil)
		if accesses(c) {
			wantError(t, c, (*mem.Mem)(nil), api.ErrNil)
			wantError(t, c, &mem.Once{}, api.ErrNil)
		}
	})
	wantError(t, ended(t, 4), nil, api.ErrNil)
}

// P12.1, P1: the errors of the arena, and arenas that panic; an instruction without an access has none.
func TestCodeArenaErrors(t *testing.T) {
	kinds(t, func(c *Code, m *mem.Mem) {
		for _, e := range []api.Errno{api.ErrNil, api.ErrRange, api.ErrBusy, api.ErrEnd, 99, -1} {
			f := &failing{Mem: m, e: e}
			if accesses(c) {
				wantError(t, c, f, e)
				continue
			}
			if waits, e := c.Copy().Step(f); waits || e != api.OK || f.made != 0 {
				t.Error(waits, e, f.made)
			}
		}
		if accesses(c) {
			wantError(t, c, struct{ api.Memory }{}, api.ErrNil)
			o, _ := mem.NewOnce(m)
			o.Load(0)
			wantError(t, c, o, api.ErrBusy)
		}
		wantWords(t, m, 5)
	})
	for _, i := range []api.Instr{loads(1, 2), stores(1, 2), swaps(1, 2), cas(1, 2, 5), awaits(2, 5), loads(0, 65535), awaits(65535, 0)} {
		wantError(t, code(t, i), arena(t, 1, 2), api.ErrRange)
	}
	m := arena(t, make([]uint64, api.MaxWords)...)
	toEnd(t, code(t, sets(1, 6), stores(1, 65535), awaits(65535, 6), loads(0, 65535)), m, 4, 6)
}

// P12.1: a program that has ended makes no further step, and no access, and keeps its result.
func TestCodeEnd(t *testing.T) {
	for _, l := range [][]api.Instr{{loads(0, 0)}, {loads(2, 0), ends(2), stores(2, 0)}, {awaits(0, 5), sets(0, 5)}} {
		m := arena(t, 5)
		c := code(t, l...)
		finish(t, c, m)
		for _, p := range []api.Program{c, c.Copy()} {
			f := &failing{Mem: m, e: api.ErrBusy}
			wantError(t, p, f, api.ErrEnd)
			if f.made != 0 || p.Result() != 5 || !p.Done() {
				t.Error(f.made, p.Result())
			}
		}
		wantWords(t, m, 5)
	}
}
