package version

import (
	"fmt"
	"math"
	"math/rand"
	"slices"
	"testing"

	"ticketline/api"
	"ticketline/mem"
)

// change is what a program writes.
type change struct {
	from  int
	words []uint64
}

// view is how a program reads.
type view struct{ from, many, tries int }

// play is a state of a game: how many changes have been made, what makes the one that is being made (nil: nothing), and those that read.
type play struct {
	ground
	over    int
	writer  api.Program
	readers []api.Program
}

// game is what is played: the version is the word 0 of an arena, and the changes are made one after the other. Was are the words after each number of changes.
type game struct {
	*testing.T
	start   ground
	first   uint64
	changes []change
	was     [][]uint64
	found   [2]int // how many have ended with each result
}

// newGame returns a game on six words, at a first version.
func newGame(t *testing.T, first uint64, changes ...change) *game {
	t.Helper()
	g := &game{T: t, start: made(t, first, 1, 2, 3, 4, 5), first: first, changes: changes}
	words := []uint64{first, 1, 2, 3, 4, 5}
	g.was = append(g.was, slices.Clone(words))
	for _, c := range changes {
		copy(words[c.from:], c.words)
		g.was = append(g.was, slices.Clone(words))
	}
	return g
}

// begin returns the first state.
func (g *game) begin(views ...view) play {
	g.Helper()
	s := play{ground: g.start.copied()}
	for _, v := range views {
		s.readers = append(s.readers, s.read(0, v.from, v.many, v.tries))
	}
	return s
}

// copied returns a state that goes on independently.
func (s play) copied() play {
	s.ground = s.ground.copied()
	if s.writer != nil {
		s.writer = s.writer.Copy()
	}
	s.readers = slices.Clone(s.readers)
	for i, p := range s.readers {
		s.readers[i] = p.Copy()
	}
	return s
}

// key returns what two equal states have in common.
func (s play) key(t *testing.T) string {
	words, _ := s.m.Words(0, 6)
	k := fmt.Sprint(s.over, words)
	if s.writer != nil {
		k += inside(t, s.writer)
	}
	for _, p := range s.readers {
		k += inside(t, p)
	}
	return k
}

// write lets the change that is next go on by a step, and reports whether there was one.
func (g *game) write(s *play) bool {
	g.Helper()
	if s.writer == nil {
		if s.over == len(g.changes) {
			return false
		}
		c := g.changes[s.over]
		s.writer = s.ground.write(0, c.from, c.words...)
	}
	if waits, e := s.writer.Step(s.m); waits || e != api.OK {
		g.Fatal(waits, e)
	}
	if s.writer.Done() {
		s.over++
		s.writer = nil
	}
	return true
}

// goOn lets a reader make a step, and reports whether there was one that did not wait.
func (g *game) goOn(s *play, i int, v view) bool {
	g.Helper()
	p := s.readers[i].(*Read)
	if p.Done() {
		return false
	}
	before := s.m.Copy()
	waits, e := p.Step(s.m)
	if e != api.OK || !s.m.Same(before) {
		g.Fatal(e, "or a word has changed")
	}
	if p.Done() {
		g.found[p.Result()]++
		g.look(s, p, v)
	}
	return !waits
}

// look checks what has been read: it is what the words were after as many changes as are over now.
func (g *game) look(s *play, p *Read, v view) {
	g.Helper()
	if p.Result() == 0 {
		wantNothing(g.T, p)
		return
	}
	words := g.was[s.over][v.from : v.from+v.many]
	wantRead(g.T, p, g.first+2*uint64(s.over), words...)
}

// all goes through all states that may come.
func (g *game) all(views ...view) int {
	g.Helper()
	first := g.begin(views...)
	seen := map[string]bool{first.key(g.T): true}
	for work := []play{first}; len(work) > 0; {
		s := work[len(work)-1]
		work = work[:len(work)-1]
		for i := -1; i < len(views); i++ {
			after := s.copied()
			if i < 0 && !g.write(&after) || i >= 0 && !g.goOn(&after, i, views[i]) {
				continue
			}
			if k := after.key(g.T); !seen[k] {
				seen[k] = true
				work = append(work, after)
			}
		}
	}
	fails := slices.ContainsFunc(views, func(v view) bool { return v.tries <= len(g.changes) }) // a change lets one try fail at most
	if g.found[1] == 0 || (g.found[0] > 0) != fails {
		g.Error(g.found)
	}
	return len(seen)
}

// P11.4: in all orders of steps of one that reads, and of programs that write one after the other.
func TestAllOrders(t *testing.T) {
	changes := [][]change{
		nil,
		{{1, []uint64{10, 20, 30, 40, 50}}},
		{{1, []uint64{10, 20}}, {2, []uint64{21, 31, 41}}},
		{{3, []uint64{31}}, {1, nil}, {1, []uint64{12, 22, 32}}, {2, []uint64{23, 33}}},
		{{1, []uint64{2, 1}}, {1, []uint64{1, 2}}, {1, []uint64{2, 1}}},
	}
	for _, first := range []uint64{0, 8, most - 1, most - 3} {
		for i, l := range changes {
			for _, v := range []view{{1, 5, 1}, {1, 5, 2}, {1, 2, 3}, {2, 3, 2}, {3, 1, 4}} {
				t.Log(first, i, v, newGame(t, first, l...).all(v), "states")
			}
		}
	}
}

// P11.4: likewise of two that read, which do not know of each other.
func TestAllOrdersOfTwo(t *testing.T) {
	g := newGame(t, 2, change{1, []uint64{10, 20}}, change{2, []uint64{21, 31}})
	t.Log(g.all(view{1, 3, 2}, view{2, 2, 1}), "states")
}

// P11.4: at random, with many changes of all kinds, and many that read.
func TestRandomOrders(t *testing.T) {
	r := rand.New(rand.NewSource(4))
	found := [2]int{}
	for range 300 {
		var l []change
		for range 20 {
			from := 1 + r.Intn(5)
			c := change{from: from, words: make([]uint64, r.Intn(7-from))}
			for i := range c.words {
				c.words[i] = r.Uint64()
			}
			l = append(l, c)
		}
		views := make([]view, 6)
		for i := range views {
			from := 1 + r.Intn(5)
			views[i] = view{from, r.Intn(7 - from), 1 + r.Intn(4)}
		}
		g := newGame(t, r.Uint64()&^1, l...)
		s := g.begin(views...)
		for s.over < len(l) {
			if i := r.Intn(8); i < 6 {
				g.goOn(&s, i, views[i])
			} else {
				g.write(&s)
			}
		}
		found[0] += g.found[0]
		found[1] += g.found[1]
	}
	if found[0] < 100 || found[1] < 100 {
		t.Error(found)
	}
}

// P11.4: without others, reading n words has n + 2 steps, and writing n words n + 3.
func TestHowManySteps(t *testing.T) {
	for n := range MaxWords + 1 {
		l := make([]uint64, n)
		for i := range l {
			l[i] = uint64(n + i)
		}
		g := made(t, make([]uint64, MaxWords+1)...)
		w, p := g.write(0, 1, l...), g.read(0, 1, n, 1)
		if steps := alone(t, g, w); steps != n+3 || w.Result() != 1 {
			t.Error(n, "words are written with", steps)
		}
		if steps := alone(t, g, p); steps != n+2 {
			t.Error(n, "words are read with", steps)
		}
		wantRead(t, p, 2, l...)
	}
}

// alone runs a program to its end, and returns how many steps it has made.
func alone(t *testing.T, g ground, p api.Program) int {
	t.Helper()
	steps := 0
	for !p.Done() {
		if waits, e := p.Step(g.m); waits || e != api.OK {
			t.Fatal(steps, waits, e)
		}
		steps++
	}
	return steps
}

// P1: no call panics, whatever the arguments and the words are; a step with an error, or that waits, changes nothing.
func FuzzCalls(f *testing.F) {
	f.Add(0, 1, 3, 1, uint64(0), uint64(2))
	f.Add(5, 1, 4, 2, uint64(7), uint64(0))
	f.Add(0, 0, 1, 1, uint64(0), uint64(0))
	f.Add(65535, 65279, 256, 1, uint64(most), uint64(1))
	f.Add(-1, -1, -1, -1, uint64(most-1), uint64(most))
	f.Add(1, math.MaxInt, 256, math.MaxInt, uint64(1)<<63, uint64(0))
	f.Add(1, math.MinInt, 0, 1, uint64(4), uint64(4))
	f.Fuzz(func(t *testing.T, version, from, many, tries int, v, other uint64) {
		want := api.OK
		if version < 0 || version > 65535 || many < 0 || many > 256 || tries < 1 {
			want = api.ErrArg
		} else if many > 0 && (from < 0 || from > 65536-many || version >= from && version < from+many) {
			want = api.ErrArg
		}
		wantNew(t, version, from, many, tries, want)
		if want != api.OK {
			return
		}
		g := made(t, make([]uint64, 400)...)
		for _, p := range []api.Program{g.read(version, from, many, tries), g.write(version, from, make([]uint64, many)...)} {
			g.m.Store(version, v)
			for i := range 600 {
				g.fuzz(p)
				if i == 3 {
					g.m.Store(version, other)
				}
			}
		}
	})
}

// fuzz makes a step of a program, on an arena that may have its words or not.
func (g ground) fuzz(p api.Program) {
	g.Helper()
	done, was, m := p.Done(), inside(g.T, p), g.m.Copy()
	o, _ := mem.NewOnce(g.m)
	waits, e := p.Step(o)
	if done != (e == api.ErrEnd) || waits && e != api.OK {
		g.Fatal(done, waits, e)
	}
	same := inside(g.T, p) == was
	if (waits || e != api.OK) && (!same || !g.m.Same(m)) {
		g.Fatal(waits, e)
	}
	if !waits && e == api.OK && (same || o.Access() == (api.Access{})) {
		g.Fatal("nothing was done")
	}
	if p.Result() > 1 || p.Result() == 1 && !p.Done() {
		g.Fatal(p.Result())
	}
	if p.Result() == 0 {
		wantNothing(g.T, p)
	}
}
