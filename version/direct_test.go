package version

import (
	"math/rand"
	"testing"

	"ticketline/api"
	"ticketline/mem"
)

// direct is a program as the chapter's steps say it, one by one: step is the number of the one that comes next, and 0 at the end.
type direct struct {
	writes              bool
	version, from, many int
	words               []uint64
	tries, step         int
	was, result         uint64
}

// next goes on with the step that has this number, by which words are read or written, or behind it, if there are none.
func (d *direct) next(words int) {
	if d.step = words; d.many == 0 {
		d.step = words + 1
	}
}

// make makes the step that comes next, and returns its access, whether it has waited, and its error.
func (d *direct) make(m *mem.Mem) (a api.Access, waits bool, e api.Errno) {
	if d.step == 0 {
		return a, false, api.ErrEnd
	}
	if d.writes {
		a, e = d.write(m)
		return a, false, e
	}
	a, waits = d.read(m)
	return a, waits, api.OK
}

func (d *direct) read(m *mem.Mem) (api.Access, bool) {
	switch d.step {
	case 1:
		v, _ := m.Load(d.version)
		if v%2 == 1 {
			return load(d.version, v), true
		}
		d.was = v
		d.words = nil
		d.next(2)
		return load(d.version, v), false
	case 2:
		w := d.from + len(d.words)
		v, _ := m.Load(w)
		if d.words = append(d.words, v); len(d.words) == d.many {
			d.step = 3
		}
		return load(w, v), false
	}
	v, _ := m.Load(d.version)
	d.tries--
	switch {
	case v == d.was:
		d.step, d.result = 0, 1
	case d.tries == 0:
		d.step = 0
	default:
		d.step = 1
	}
	return load(d.version, v), false
}

func (d *direct) write(m *mem.Mem) (api.Access, api.Errno) {
	w, becomes := d.version, d.was+1
	switch d.step {
	case 1:
		v, _ := m.Load(d.version)
		if v%2 == 1 {
			return load(d.version, v), api.ErrState
		}
		d.was = v
		d.step = 2
		return load(d.version, v), api.OK
	case 2:
		d.next(3)
	case 3:
		w, becomes = d.from+d.many-len(d.words), d.words[0]
		if d.words = d.words[1:]; len(d.words) == 0 {
			d.step = 4
		}
	case 4:
		becomes = d.was + 2
		d.step, d.result = 0, 1
	}
	v, _ := m.Load(w)
	m.Store(w, becomes)
	return store(w, v, becomes), api.OK
}

// P11.2, P11.3: programs in arenas in which anything changes between their steps, held against the chapter's steps done one after the other.
func TestDirect(t *testing.T) {
	r := rand.New(rand.NewSource(11))
	results := [2]int{}
	for range 20000 {
		g := ground{t, arenaOf(t, r)}
		version, many := r.Intn(10), r.Intn(5)
		from := r.Intn(10 - many)
		if many > 0 && version >= from && version < from+many {
			continue
		}
		d := direct{version: version, from: from, many: many, step: 1, writes: r.Intn(3) == 0, tries: 1 + r.Intn(4)}
		var p api.Program
		if d.writes {
			d.words = make([]uint64, many)
			for i := range d.words {
				d.words[i] = r.Uint64()
			}
			p = g.write(version, from, d.words...)
		} else {
			p = g.read(version, from, many, d.tries)
		}
		g.follow(r, p, &d)
		if p.Done() {
			results[p.Result()]++
		}
	}
	if results[0] < 100 || results[1] < 100 {
		t.Error(results)
	}
}

// arenaOf returns an arena of ten words, of which many are small.
func arenaOf(t *testing.T, r *rand.Rand) *mem.Mem {
	g := made(t, make([]uint64, 10)...)
	for i := range 10 {
		g.set(i, r.Uint64()>>r.Intn(64))
	}
	return g.m
}

// follow makes steps of a program, and now and then changes the version, or a word, or goes on with a copy.
func (g ground) follow(r *rand.Rand, p api.Program, d *direct) {
	g.Helper()
	for range 40 {
		switch r.Intn(20) {
		case 0, 1:
			g.set(d.version, uint64(r.Intn(3)))
		case 2:
			g.set(r.Intn(10), r.Uint64())
		case 3:
			p = p.Copy()
		}
		as := g.m.Copy()
		o, _ := mem.NewOnce(g.m)
		waits, e := p.Step(o)
		a, wantWaits, want := d.make(as)
		if o.Access() != a || waits != wantWaits || e != want || !g.m.Same(as) {
			g.Fatal(o.Access(), waits, e, "and not", a, wantWaits, want)
		}
		if p.Done() != (d.step == 0) || p.Result() != d.result {
			g.Fatal(p.Done(), p.Result(), "and not", d.step, d.result)
		}
		if d.writes || d.result == 0 {
			wantNothing(g.T, p)
		} else {
			wantRead(g.T, p.(*Read), d.was, d.words...)
		}
	}
}
