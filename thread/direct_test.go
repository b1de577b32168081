package thread

import (
	"math/rand"
	"slices"
	"testing"

	"ticketline/api"
)

// direct is a code as the chapter's table says it: what it has, and the words on which it works.
type direct struct {
	l         []api.Instr
	registers [4]uint64
	at        int
	done      bool
	result    uint64
}

// make makes the next step on some words, and returns its access, whether it has waited, and its error.
func (d *direct) make(words []uint64) (a api.Access, waits bool, e api.Errno) {
	i := d.l[d.at]
	if i.Kind <= api.InstrAwait && i.W >= len(words) {
		return a, false, api.ErrRange
	}
	next := d.at + 1
	switch i.Kind {
	case api.InstrLoad:
		d.registers[i.R] = words[i.W]
		a = load(i.W, words[i.W])
	case api.InstrStore:
		a = store(i.W, words[i.W], d.registers[i.R])
		words[i.W] = d.registers[i.R]
	case api.InstrSwap:
		a = api.Access{Kind: api.AccessSwap, Word: i.W, Before: words[i.W], After: d.registers[i.R]}
		words[i.W], d.registers[i.R] = d.registers[i.R], words[i.W]
	case api.InstrCAS:
		a = api.Access{Kind: api.AccessCAS, Word: i.W, Before: words[i.W], After: words[i.W]}
		was := words[i.W] == i.V
		if was {
			words[i.W] = d.registers[i.R]
			a.After = words[i.W]
		}
		d.registers[i.R] = 0
		if was {
			d.registers[i.R] = 1
		}
	case api.InstrAwait:
		a = load(i.W, words[i.W])
		if words[i.W] != i.V {
			return a, true, api.OK
		}
	case api.InstrSet:
		d.registers[i.R] = i.V
	case api.InstrAdd:
		d.registers[i.R] += i.V
	case api.InstrJump:
		if d.registers[i.R] == i.V {
			next = i.W
		}
	case api.InstrEnd:
		d.done, d.result = true, d.registers[i.R]
		return a, false, api.OK
	}
	d.at = next
	if next == len(d.l) {
		d.done, d.result = true, d.registers[0]
	}
	return a, false, api.OK
}

// directThread is a thread that runs codes one after the other.
type directThread struct {
	codes        []direct
	steps, looks int
}

// running returns the code that runs, nil if all of them have ended.
func (d *directThread) running() *direct {
	for i := range d.codes {
		if !d.codes[i].done {
			return &d.codes[i]
		}
	}
	return nil
}

// result returns that of the last one, if all of them have ended.
func (d *directThread) result() uint64 {
	if d.running() != nil {
		return 0
	}
	return d.codes[len(d.codes)-1].result
}

// play is a machine, and threads and words of which the same is known.
type play struct {
	*testing.T
	r       *rand.Rand
	m       *Machine
	words   []uint64
	threads []directThread
	did     []api.Did
}

// someCode returns instructions on so many words, with small values, so that they meet now and then.
func (p *play) someCode() []api.Instr {
	l := make([]api.Instr, 1+p.r.Intn(8))
	for i := range l {
		l[i] = api.Instr{Kind: api.InstrKind(1 + p.r.Intn(9)), R: p.r.Intn(4), W: p.r.Intn(len(p.words)), V: uint64(p.r.Intn(3))}
		switch {
		case l[i].Kind == api.InstrJump:
			l[i].W = p.r.Intn(len(l))
		case p.r.Intn(100) == 0:
			l[i].W = len(p.words)
		case l[i].Kind == api.InstrAdd && p.r.Intn(3) == 0:
			l[i].V = most - uint64(p.r.Intn(2))
		}
	}
	return l
}

// someProgram returns a code, or a chain of some, and the same as a thread.
func (p *play) someProgram() (api.Program, directThread) {
	p.Helper()
	var l []api.Program
	var d directThread
	for range 1 + p.r.Intn(3) {
		c := p.someCode()
		l = append(l, code(p.T, c...))
		d.codes = append(d.codes, direct{l: c})
	}
	if len(l) == 1 && p.r.Intn(2) == 0 {
		return l[0], d
	}
	return chained(p.T, l...), d
}

// newPlay returns a machine with some threads.
func newPlay(t *testing.T, r *rand.Rand) *play {
	t.Helper()
	p := &play{T: t, r: r, words: make([]uint64, 1+r.Intn(4))}
	for i := range p.words {
		p.words[i] = uint64(r.Intn(3))
	}
	p.m = machine(t, p.words...)
	for range 1 + r.Intn(5) {
		x, d := p.someProgram()
		p.m.with(t, x)
		p.threads = append(p.threads, d)
	}
	return p
}

// step lets a thread make a step, and returns whether it would have waited before.
func (p *play) step(n int) {
	p.Helper()
	would, others := p.m.Waits(n), p.others(n)
	d, e := p.m.Step(n)
	x := &p.threads[n]
	run := x.running()
	if run == nil {
		if d != (api.Did{}) || e != api.ErrEnd || would {
			p.Fatal(n, d, e, would)
		}
		return
	}
	a, waits, f := run.make(p.words)
	if f != api.OK {
		if d != (api.Did{}) || e != f || would {
			p.Fatal(n, d, e, would, "and not", f)
		}
		return
	}
	x.steps++
	if waits {
		x.looks++
	}
	want := api.Did{Thread: n, Access: a, Waits: waits, Ended: x.running() == nil}
	if d != want || e != api.OK || would != waits {
		p.Fatal(n, d, e, would, "and not", want)
	}
	p.did = append(p.did, d)
	if p.others(n) != others {
		p.Fatal(n, "has changed another thread")
	}
}

// others returns what all threads but one are, as text.
func (p *play) others(n int) string {
	s := ""
	for i := range p.threads {
		if i != n {
			s += dump(p.m.threads[i].program) + "," + dump([]int{p.m.Steps(i), p.m.Looks(i)})
		}
	}
	return s
}

// look checks all that is known of the machine.
func (p *play) look() {
	p.Helper()
	wantWords(p.T, p.m.Mem(), p.words...)
	stuck, open := true, false
	for n, x := range p.threads {
		run := x.running()
		wantThread(p.T, p.m, n, run == nil, x.result(), x.steps, x.looks)
		waits := false
		if run != nil {
			again := *run
			_, waits, _ = again.make(slices.Clone(p.words))
			open, stuck = true, stuck && waits
		}
		if p.m.Waits(n) != waits {
			p.Fatal(n, p.m.Waits(n))
		}
	}
	if p.m.Stuck() != (open && stuck) {
		p.Fatal(p.m.Stuck())
	}
}

// put gives a thread another program.
func (p *play) put(n int) {
	p.Helper()
	x, d := p.someProgram()
	want := api.OK
	if p.threads[n].running() != nil {
		want = api.ErrState
	}
	if e := p.m.Put(n, x); e != want {
		p.Fatal(n, e)
	}
	if want == api.OK {
		p.threads[n].codes = d.codes
	}
}

// P12.1 to P12.6: machines with codes and chains that come by chance, held against the chapter's table, step by step.
func TestDirect(t *testing.T) {
	r := rand.New(rand.NewSource(12))
	waits, ends, stuck := 0, 0, 0
	for range 3000 {
		p := newPlay(t, r)
		for range 40 {
			n := r.Intn(len(p.threads))
			switch r.Intn(20) {
			case 0:
				p.put(n)
			case 1:
				p.m = p.m.Copy()
			default:
				p.step(n)
			}
			p.look()
		}
		if p.m.Stuck() {
			stuck++
		}
		for _, d := range p.did {
			if d.Waits {
				waits++
			}
			if d.Ended {
				ends++
			}
		}
	}
	if waits < 1000 || ends < 1000 || stuck < 100 {
		t.Error(waits, ends, stuck)
	}
}
