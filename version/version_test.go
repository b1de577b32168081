package version

import (
	"math"
	"slices"
	"testing"

	"ticketline/api"
	"ticketline/mem"
)

const most = math.MaxUint64

// ground is an arena.
type ground struct {
	*testing.T
	m *mem.Mem
}

// made returns an arena of some words.
func made(t *testing.T, l ...uint64) ground {
	t.Helper()
	m, e := mem.New(len(l))
	if m == nil || e != api.OK {
		t.Fatal(len(l), e)
	}
	g := ground{t, m}
	g.set(0, l...)
	return g
}

// example returns the arena of the chapter's examples.
func example(t *testing.T) ground {
	t.Helper()
	return made(t, make([]uint64, 8)...)
}

// copied returns an arena that goes on independently.
func (g ground) copied() ground { return ground{g.T, g.m.Copy()} }

// set makes words other values, from one on.
func (g ground) set(from int, l ...uint64) {
	g.Helper()
	for i, v := range l {
		if e := g.m.Store(from+i, v); e != api.OK {
			g.Fatal(from+i, e)
		}
	}
}

// want checks words, from one on.
func (g ground) want(from int, l ...uint64) {
	g.Helper()
	if is, e := g.m.Words(from, from+len(l)); e != api.OK || !slices.Equal(is, l) {
		g.Error("the words are", is, e, "and not", l)
	}
}

// read returns a program that reads.
func (g ground) read(version, from, many, tries int) *Read {
	g.Helper()
	p, e := NewRead(version, from, many, tries)
	if p == nil || e != api.OK || p.Done() || p.Result() != 0 {
		g.Fatal(version, from, many, tries, e)
	}
	return p
}

// write returns a program that writes.
func (g ground) write(version, from int, l ...uint64) *Write {
	g.Helper()
	p, e := NewWrite(version, from, l)
	if p == nil || e != api.OK || p.Done() || p.Result() != 0 {
		g.Fatal(version, from, l, e)
	}
	return p
}

// The accesses, as the chapter's steps make them.
func load(w int, v uint64) api.Access {
	return api.Access{Kind: api.AccessLoad, Word: w, Before: v, After: v}
}

func store(w int, before, after uint64) api.Access {
	return api.Access{Kind: api.AccessStore, Word: w, Before: before, After: after}
}

// step makes a step: w is one that waits, s one that does not, e one that ends the program with the result 1, and f one that ends it with 0. It returns its access, which is the only one.
func (g ground) step(p api.Program, c rune) api.Access {
	g.Helper()
	o, e := mem.NewOnce(g.m)
	if e != api.OK || p.Done() || p.Result() != 0 {
		g.Fatal(e, p.Done(), p.Result())
	}
	wantNothing(g.T, p)
	waits, e := p.Step(o)
	if e != api.OK || waits != (c == 'w') || p.Done() != (c == 'e' || c == 'f') || (p.Result() == 1) != (c == 'e') || p.Result() > 1 {
		g.Fatal(string(c), waits, e, p.Done(), p.Result())
	}
	if c != 'e' {
		wantNothing(g.T, p)
	}
	return o.Access()
}

// steps makes a step for each letter.
func (g ground) steps(p api.Program, letters string) {
	g.Helper()
	for _, c := range letters {
		g.step(p, c)
	}
}

// accesses makes a step for each letter, and checks their accesses.
func (g ground) accesses(p api.Program, letters string, want ...api.Access) {
	g.Helper()
	for i, c := range letters {
		if a := g.step(p, c); a != want[i] {
			g.Error("step", i, "is", a, "and not", want[i])
		}
	}
}

// wantNothing checks that nothing was read.
func wantNothing(t *testing.T, p api.Program) {
	t.Helper()
	if r, is := p.(*Read); is && (len(r.Words()) != 0 || r.Version() != 0) {
		t.Error(r.Words(), r.Version())
	}
}

// wantRead checks what was read.
func wantRead(t *testing.T, p *Read, version uint64, l ...uint64) {
	t.Helper()
	if is := p.Words(); !p.Done() || p.Result() != 1 || p.Version() != version || !slices.Equal(is, l) {
		t.Error(p.Done(), p.Result(), is, p.Version(), "and not", l, version)
	}
}

// P11.2, P11.3: the first row of the chapter's example.
func TestExampleAlone(t *testing.T) {
	g := example(t)
	g.steps(g.write(0, 2, 7, 8), "sssse")
	p := g.read(0, 1, 3, 1)
	g.steps(p, "sssse")
	wantRead(t, p, 2, 0, 7, 8)
}

// P11.2, P11.3: the second row of the chapter's example, and the third one.
func TestExampleOthers(t *testing.T) {
	g := example(t)
	g.steps(g.write(0, 2, 7, 8), "sssse")
	w, p := g.write(0, 2, 1, 2), g.read(0, 2, 2, 2)
	g.steps(w, "ss")
	g.steps(p, "w")
	g.steps(w, "sse")
	g.steps(p, "ssse")
	wantRead(t, p, 4, 1, 2)
	p = g.read(0, 2, 2, 1)
	g.steps(p, "ss")
	g.steps(g.write(0, 2, 5, 6), "sssse")
	g.steps(p, "sf")
	wantNothing(t, p)
}

// P11.1, P11.2: the last row of the chapter's example.
func TestExampleErrors(t *testing.T) {
	if !Even(0) || Even(3) {
		t.Error("Even")
	}
	wantNew(t, 0, 0, 1, 1, api.ErrArg)
	wantNew(t, 0, 1, 1, 0, api.ErrArg)
	wantNew(t, 0, 1, 257, 1, api.ErrArg)
	wantNew(t, 0, 0, 0, 1, api.OK)
	g := example(t)
	g.set(0, 3)
	if waits, e := g.write(0, 1, 1).Step(g.m); waits || e != api.ErrState {
		t.Error(waits, e)
	}
}

// P11.1: whatever the other bits are.
func TestEven(t *testing.T) {
	for bit := range 64 {
		v := uint64(1) << bit
		if Even(v) != (bit > 0) || Even(v|1) || !Even(^v&^1) || Even(most-v) != (bit == 0) {
			t.Error(v)
		}
	}
	for _, v := range []uint64{0, 2, 4, 1<<63 - 2, 1 << 63, most - 1} {
		if !Even(v) || Even(v+1) {
			t.Error(v)
		}
	}
}

// wantNew checks what the constructors return; that of Write only for the arguments that it may have.
func wantNew(t *testing.T, version, from, many, tries int, want api.Errno) {
	t.Helper()
	p, e := NewRead(version, from, many, tries)
	if e != want || (p == nil) != (want != api.OK) {
		t.Error(version, from, many, tries, p, e)
	}
	if p != nil && (p.Done() || p.Result() != 0) {
		t.Error("has ended at first")
	}
	if many < 0 || many > 1000 || tries < 1 {
		return
	}
	w, e := NewWrite(version, from, make([]uint64, many))
	if e != want || (w == nil) != (want != api.OK) {
		t.Error(version, from, many, w, e)
	}
	if w != nil && (w.Done() || w.Result() != 0) {
		t.Error("has ended at first")
	}
}

// far returns numbers that no word has; some would be one's, if they were cut off or went round.
func far() []int {
	return []int{-1, -2, -256, api.MaxWords, api.MaxWords + 1, 1 << 32, 1<<32 + 1, 1 << 62, math.MaxInt - 256, math.MaxInt - 1, math.MaxInt, math.MinInt, math.MinInt + 1}
}

// P11.1: which words may be read and written is as the chapter says, wherever they and the version are.
func TestNew(t *testing.T) {
	edges := []int{0, 1, 2, 3, 10, 254, 255, 256, 257, 500, api.MaxWords - 257, api.MaxWords - 256, api.MaxWords - 255, api.MaxWords - 3, api.MaxWords - 2, api.MaxWords - 1}
	for _, version := range append(far(), edges...) {
		for _, from := range append(far(), edges...) {
			for _, many := range []int{0, 1, 2, 3, 10, 255, 256} {
				want := api.OK
				if version < 0 || version > 65535 {
					want = api.ErrArg
				}
				for i := range many {
					if w := from + i; from < 0 || w < 0 || w > 65535 || w == version {
						want = api.ErrArg
					}
				}
				for _, tries := range []int{1, 2, 1000, math.MaxInt} {
					wantNew(t, version, from, many, tries, want)
				}
				for _, tries := range []int{0, -1, math.MinInt} {
					wantNew(t, version, from, many, tries, api.ErrArg)
				}
			}
		}
	}
}

// P11.1: too many words, or fewer than none, also if it would not matter where they were.
func TestNewMany(t *testing.T) {
	for _, many := range []int{257, 258, 1000, api.MaxWords, math.MaxInt, -1, -2, -256, math.MinInt} {
		for _, from := range []int{0, 1, 5, 300, -1, math.MaxInt} {
			wantNew(t, 0, from, many, 1, api.ErrArg)
			wantNew(t, 300, from, many, 1, api.ErrArg)
		}
	}
}

// P11.1: a program that writes keeps nothing of what it was given: neither does it change with it, nor does it change it.
func TestNothingKept(t *testing.T) {
	g := example(t)
	l := []uint64{5, 6, 7, 8}
	w, e := NewWrite(0, 1, l[:2])
	if e != api.OK {
		t.Fatal(e)
	}
	l[0], l[1] = 50, 60
	g.steps(w, "sssse")
	g.want(0, 2, 5, 6, 0)
	if !slices.Equal(l, []uint64{50, 60, 7, 8}) {
		t.Error(l)
	}
}

// P11.2: each step that reads makes the access that the chapter says, and waits as long as the version is odd.
func TestReadSteps(t *testing.T) {
	g := made(t, 9, 8, 7, 5, 6, 1)
	p := g.read(5, 1, 3, 1)
	g.accesses(p, "ww", load(5, 1), load(5, 1))
	for _, v := range []uint64{3, 1<<63 + 1, most} {
		g.set(5, v)
		g.accesses(p, "ww", load(5, v), load(5, v))
	}
	g.set(5, 1<<40)
	g.accesses(p, "sssse", load(5, 1<<40), load(1, 8), load(2, 7), load(3, 5), load(5, 1<<40))
	wantRead(t, p, 1<<40, 8, 7, 5)
	g.want(0, 9, 8, 7, 5, 6, 1<<40)
}

// P11.2: if the version is another one, whichever it is, all that was read is forgotten, and read again, as often as there are tries; looking at an odd version is none.
func TestReadTries(t *testing.T) {
	for tries := 1; tries <= 6; tries++ {
		for fails := range tries {
			g := example(t)
			p := g.read(0, 3, 2, tries)
			for i := range fails {
				g.failTry(p, i, 's')
				g.set(0, 7)
				g.accesses(p, "www", load(0, 7), load(0, 7), load(0, 7))
			}
			c := p.Copy()
			g.set(0, 8)
			g.set(3, 80, 81)
			g.accesses(p, "ssse", load(0, 8), load(3, 80), load(4, 81), load(0, 8))
			wantRead(t, p, 8, 80, 81)
			for i := fails; i < tries-1; i++ {
				g.failTry(c, i, 's')
			}
			g.failTry(c, tries-1, 'f')
		}
	}
}

// failTry lets a try of reading two words from the word 3 on, by the version 0, fail, with a step that is as the letter says.
func (g ground) failTry(p api.Program, i int, last rune) {
	g.Helper()
	v, n := uint64(i*10), uint64(i)
	g.set(0, v)
	g.set(3, n, n+1)
	g.accesses(p, "sss", load(0, v), load(3, n), load(4, n+1))
	other := []uint64{v + 1, v + 2, v - 2, v ^ 1<<63, v ^ 1<<32, most}[i]
	g.set(0, other)
	g.accesses(p, string(last), load(0, other))
}

// P11.2: what the version was in between does not matter, if it is again what it was in the first step of a try.
func TestReadSame(t *testing.T) {
	g := made(t, 4, 1, 2)
	p := g.read(0, 1, 2, 1)
	g.steps(p, "ss")
	g.set(0, 7, 11, 12)
	g.steps(p, "s")
	g.set(0, 4)
	g.steps(p, "e")
	wantRead(t, p, 4, 1, 12)
}

// P11.2: what comes after a try that failed is held against the version of its own first step.
func TestReadLaterVersion(t *testing.T) {
	g := made(t, 0, 1)
	p := g.read(0, 1, 1, 3)
	g.steps(p, "ss")
	g.set(0, 2)
	g.steps(p, "sss")
	g.set(0, 0)
	g.steps(p, "sss")
	g.set(0, 2)
	g.steps(p, "f")
}

// P11.2: the version in the last step of a try is not the one that the next try begins with.
func TestReadLooksAgain(t *testing.T) {
	g := made(t, 0, 1)
	p := g.read(0, 1, 1, 2)
	g.steps(p, "ss")
	g.set(0, 2)
	g.steps(p, "s")
	g.set(0, 6, 3)
	g.accesses(p, "sse", load(0, 6), load(1, 3), load(0, 6))
	wantRead(t, p, 6, 3)
}

// P11.2: each step that writes makes the access that the chapter says, whatever the words and the version have become meanwhile.
func TestWriteSteps(t *testing.T) {
	g := made(t, 9, 8, 7, 5, 6, 4)
	g.accesses(g.write(5, 1, 3, 7, most), "ssssse", load(5, 4), store(5, 4, 5), store(1, 8, 3), store(2, 7, 7), store(3, 5, most), store(5, 5, 6))
	g.want(0, 9, 3, 7, most, 6, 6)
	w := g.write(5, 0, 1, 2)
	g.accesses(w, "s", load(5, 6))
	g.set(5, 77)
	g.accesses(w, "s", store(5, 77, 7))
	g.set(0, 33, 44)
	g.accesses(w, "ss", store(0, 33, 1), store(1, 44, 2))
	g.set(5, 99)
	g.accesses(w, "e", store(5, 99, 8))
	g.want(0, 1, 2, 7, most, 6, 8)
}

// P11.2: behind the greatest version comes 0.
func TestWriteRound(t *testing.T) {
	g := made(t, most-1, 3)
	g.accesses(g.write(0, 1, 4), "ssse", load(0, most-1), store(0, most-1, most), store(1, 3, 4), store(0, most, 0))
	g.accesses(g.write(0, 1, 5), "ssse", load(0, 0), store(0, 0, 1), store(1, 4, 5), store(0, 1, 2))
	p := g.read(0, 1, 1, 1)
	g.set(0, most-1)
	g.steps(p, "s")
	g.set(0, 0)
	g.steps(p, "sf")
}

// P11.2: no words: the version alone is looked at, or becomes another one.
func TestNoWords(t *testing.T) {
	for _, from := range append(far(), 0, 1, 2) {
		g := made(t, 3, 6)
		p := g.read(1, from, 0, 2)
		g.accesses(p, "s", load(1, 6))
		g.accesses(g.write(1, from), "sse", load(1, 6), store(1, 6, 7), store(1, 7, 8))
		g.accesses(p, "sse", load(1, 8), load(1, 8), load(1, 8))
		wantRead(t, p, 8)
		g.want(0, 3, 8)
	}
}

// P11.2, P11.3: as many words as are allowed, at both ends of the greatest arena.
func TestPlaces(t *testing.T) {
	l := make([]uint64, MaxWords)
	for i := range l {
		l[i] = most - uint64(i)
	}
	g := made(t, make([]uint64, api.MaxWords)...)
	for _, c := range [][2]int{{api.MaxWords - 1, 0}, {0, api.MaxWords - 256}, {256, 0}, {256, 257}, {api.MaxWords - 257, api.MaxWords - 256}, {api.MaxWords - 1, api.MaxWords - 257}} {
		was := g.m.Copy()
		v, _ := was.Load(c[0])
		v &^= 1
		g.set(c[0], v)
		was.Store(c[0], v+2)
		w, p := g.write(c[0], c[1], l...), g.read(c[0], c[1], 256, 1)
		for i := range 258 {
			g.step(w, 's')
			if i > 1 {
				was.Store(c[1]+i-2, l[i-2])
			}
		}
		g.step(w, 'e')
		for range 257 {
			g.step(p, 's')
		}
		g.step(p, 'e')
		wantRead(t, p, v+2, l...)
		if !g.m.Same(was) {
			t.Error(c)
		}
	}
}

// P11.3: Words are those of the program, and change neither with what it returns, nor with the arena.
func TestWordsAreCopies(t *testing.T) {
	g := made(t, 2, 5, 6)
	p := g.read(0, 1, 2, 1)
	g.steps(p, "ssse")
	c := p.Copy().(*Read)
	l := p.Words()
	l[0], l[1] = 70, 80
	l = append(l[:1], 90)
	g.set(0, 8, 8, 8)
	wantRead(t, p, 2, 5, 6)
	wantRead(t, c, 2, 5, 6)
	l = c.Words()
	l[0] = 70
	wantRead(t, p, 2, 5, 6)
	wantRead(t, c, 2, 5, 6)
}

// P11.3: a copy, made before any step, goes on as the program would have, on words that may be others, and neither of them changes the other.
func TestCopy(t *testing.T) {
	for _, begun := range []struct {
		p     func(ground) api.Program
		words []uint64
		steps string
	}{
		{func(g ground) api.Program { return g.read(0, 1, 3, 2) }, []uint64{2, 5, 6, 7}, "sssse"},
		{func(g ground) api.Program { return g.read(0, 1, 3, 2) }, []uint64{3, 5, 6, 7}, "wwww"},
		{func(g ground) api.Program { return g.read(0, 9, 0, 1) }, []uint64{2}, "se"},
		{func(g ground) api.Program { return g.write(0, 1, 4, 3, 2) }, []uint64{2, 5, 6, 7}, "ssssse"},
		{func(g ground) api.Program { return g.write(0, 9) }, []uint64{2}, "sse"},
	} {
		for n := range len(begun.steps) + 1 {
			g := example(t)
			g.set(0, begun.words...)
			p := begun.p(g)
			g.steps(p, begun.steps[:n])
			was := inside(t, p)
			c := p.Copy()
			if inside(t, c) != was || c.Done() != p.Done() || c.Result() != p.Result() {
				t.Fatal(begun.steps, n)
			}
			other := g.copied()
			other.steps(c, begun.steps[n:])
			if inside(t, p) != was {
				t.Fatal(begun.steps, n, "changed with its copy")
			}
			is := inside(t, c)
			g.steps(p, begun.steps[n:])
			if inside(t, c) != is || inside(t, p) != is || !g.m.Same(other.m) {
				t.Fatal(begun.steps, n, "goes on in another way")
			}
		}
	}
}

// P11.3: a program and its copies that read other words from then on.
func TestCopyApart(t *testing.T) {
	for n := range 4 {
		g := made(t, 2, 5, 6, 7, 8)
		p := g.read(0, 1, 4, 1)
		g.steps(p, "sssss"[:n+1])
		c, d := p.Copy().(*Read), p.Copy().(*Read)
		others, third := g.copied(), g.copied()
		others.set(1, 50, 60, 70, 80)
		third.set(1, 51, 61, 71, 81)
		for i := n; i < 4; i++ {
			others.steps(c, "s")
			g.steps(p, "s")
			third.steps(d, "s")
		}
		third.steps(d, "e")
		others.steps(c, "e")
		g.steps(p, "e")
		wantRead(t, p, 2, 5, 6, 7, 8)
		wantRead(t, c, 2, append([]uint64{5, 6, 7, 8}[:n:n], []uint64{50, 60, 70, 80}[n:]...)...)
		wantRead(t, d, 2, append([]uint64{5, 6, 7, 8}[:n:n], []uint64{51, 61, 71, 81}[n:]...)...)
	}
}

// P11.3: a copy has as many tries as the program has left, and uses up none of its.
func TestCopyTries(t *testing.T) {
	g := made(t, 0, 1)
	p := g.read(0, 1, 1, 3)
	g.steps(p, "ss")
	g.set(0, 2)
	g.steps(p, "sss")
	g.set(0, 4)
	c := p.Copy()
	for _, q := range []api.Program{c, p} {
		g.set(0, 4)
		g.steps(q, "sss")
		g.set(0, 6)
		g.steps(q, "f")
	}
}
