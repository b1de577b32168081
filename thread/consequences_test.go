package thread

import (
	"math/rand"
	"slices"
	"testing"

	"ticketline/api"
	"ticketline/mcs"
	"ticketline/qnode"
	"ticketline/queue"
	"ticketline/version"
)

// P12.4, P12.6: Run of a schedule is its steps one after the other, and in two parts that of the whole; an error is the first one of these, and changes nothing.
func TestRunInParts(t *testing.T) {
	r := rand.New(rand.NewSource(126))
	wrong := 0
	for range 4000 {
		p := newPlay(t, r)
		picks := make([]int, r.Intn(40))
		for i := range picks {
			picks[i] = r.Intn(len(p.threads))
		}
		whole, first, steps := p.m, p.m.Copy(), p.m.Copy()
		want, e := stepByStep(steps, picks)
		before := state(whole)
		l, f := whole.Run(picks)
		if f != e || f != api.OK && (len(l) > 0 || state(whole) != before) {
			t.Fatal(l, f, e)
		}
		if e != api.OK {
			wrong++
			continue
		}
		cut := r.Intn(len(picks) + 1)
		one, two := run(t, first, picks[:cut]...), run(t, first, picks[cut:]...)
		if !slices.Equal(l, want) || state(whole) != state(steps) {
			t.Fatal(l, "and not", want)
		}
		if !slices.Equal(append(one, two...), want) || state(first) != state(whole) {
			t.Fatal(one, two, "and not", want)
		}
	}
	if wrong < 100 || wrong > 3000 {
		t.Error(wrong)
	}
}

// stepByStep makes a step for each pick, but for threads that have ended, up to the first error.
func stepByStep(m *Machine, picks []int) (l []api.Did, e api.Errno) {
	for _, n := range picks {
		d, e := m.Step(n)
		if e == api.ErrEnd {
			continue
		}
		if e != api.OK {
			return nil, e
		}
		l = append(l, d)
	}
	return l, api.OK
}

// P12.6: a step changes at most the word of its access, as the access says; one that waits changes no word.
func TestOneWord(t *testing.T) {
	r := rand.New(rand.NewSource(6))
	for range 3000 {
		p := newPlay(t, r)
		for range 30 {
			want, _ := p.m.Mem().Words(0, len(p.words))
			n := r.Intn(len(p.threads))
			would := p.m.Waits(n)
			d, e := p.m.Step(n)
			if e == api.OK && d.Access.Kind != api.AccessNone {
				if want[d.Access.Word] != d.Access.Before || d.Waits && d.Access.After != d.Access.Before {
					t.Fatal(d)
				}
				want[d.Access.Word] = d.Access.After
			}
			if would != d.Waits {
				t.Fatal(d, would)
			}
			wantWords(t, p.m.Mem(), want...)
		}
	}
}

// P12.2 to P12.6: programs of other layers, by schedules of layer 3: under a lock no addition gets lost, however its threads are picked.
func TestSchedules(t *testing.T) {
	const threads = 5
	n, e := qnode.New(2, threads)
	if e != api.OK {
		t.Fatal(e)
	}
	start := machine(t, make([]uint64, 2+n.Len())...)
	for i := range threads {
		node, _ := n.Of(i, qnode.Plain)
		get, _ := mcs.NewAcquire(n, 0, node)
		giveBack, _ := mcs.NewRelease(n, 0, node)
		start.with(t, chained(t, get, adder(t, 1, 1), giveBack, chained(t, get, adder(t, 1, 1), giveBack)))
	}
	round, _ := queue.Round(threads, 2000)
	r := rand.New(rand.NewSource(3))
	bytes := make([]byte, 4000)
	r.Read(bytes)
	from, _ := queue.From(bytes, threads)
	picker, _ := queue.New(threads, 30)
	fair := make([]int, 4000)
	for i := range fair {
		fair[i], _ = picker.Next(0)
	}
	for i, picks := range [][]int{round, from, fair} {
		m := start.Copy()
		run(t, m, picks...)
		looks := 0
		for x := range threads {
			if !m.Done(x) || m.Result(x) != 1 {
				t.Error(i, x, "has not ended")
			}
			looks += m.Looks(x)
		}
		if v, _ := m.Mem().Load(1); v != 2*threads || looks == 0 || m.Stuck() {
			t.Error(i, v, looks)
		}
	}
	if start.Stuck() || start.Steps(0) != 0 {
		t.Error("changed by its copies")
	}
}

// P12.5: a lock that nobody gives back: a machine is stuck as soon as all the others wait, and no sooner.
func TestStuckBehindALock(t *testing.T) {
	n, _ := qnode.New(1, 3)
	m := machine(t, make([]uint64, 1+n.Len())...)
	for i := range 3 {
		get, _ := mcs.NewAcquire(n, 0, 2*i)
		m.with(t, get)
	}
	run(t, m, 0, 0, 0, 1, 1, 1, 1, 2, 2, 2)
	if m.Stuck() || !m.Waits(1) || m.Waits(2) || m.Waits(0) || !m.Done(0) {
		t.Error(m.Stuck(), m.Waits(1), m.Waits(2))
	}
	run(t, m, 2)
	if !m.Stuck() {
		t.Error("not stuck")
	}
	giveBack, _ := mcs.NewRelease(n, 0, 0)
	if e := m.Put(0, giveBack); e != api.OK || m.Stuck() {
		t.Error(e)
	}
	run(t, m, 0, 0)
	if m.Stuck() || m.Waits(1) || !m.Waits(2) {
		t.Error(m.Stuck(), m.Waits(1), m.Waits(2))
	}
}

// P12.5: Program returns what has its own functions, as they are.
func TestProgramOfItsType(t *testing.T) {
	w, e := version.NewWrite(0, 1, []uint64{7, 8})
	r, f := version.NewRead(0, 1, 2, 3)
	if e != api.OK || f != api.OK {
		t.Fatal(e, f)
	}
	m := machine(t, 0, 0, 0).with(t, r, w)
	run(t, m, 1, 1, 0, 1, 0, 1, 1, 0, 0, 0, 0)
	p, is := m.Program(0).(*version.Read)
	if !is || m.Looks(0) != 2 || !slices.Equal(p.Words(), []uint64{7, 8}) || p.Version() != 2 {
		t.Error(is, m.Looks(0), p.Words(), p.Version())
	}
}

// P1: no call panics, whatever the instructions and picks are; an error changes nothing.
func FuzzCalls(f *testing.F) {
	f.Add([]byte{1, 0, 0, 0, 7, 0, 0, 1, 2, 0, 0, 0}, []byte{0, 1, 2, 0, 1, 2}, 4)
	f.Add([]byte{5, 9, 0, 1}, []byte{0, 0, 255}, 1)
	f.Add([]byte{8, 1, 0, 0, 9, 3, 0, 0}, []byte{2, 2, 2}, 65536)
	f.Add([]byte{4, 1, 1, 0, 3, 2, 255, 0, 0, 0, 0, 0}, []byte{1}, 0)
	f.Add([]byte{}, []byte{}, -1)
	f.Fuzz(func(t *testing.T, b, p []byte, n int) {
		l := make([]api.Instr, len(b)/4)
		fine := len(l) > 0 && len(l) <= 256
		for i := range l {
			l[i] = api.Instr{Kind: api.InstrKind(b[4*i]) % 11, R: int(b[4*i+1]) - 1, W: int(int8(b[4*i+2])), V: uint64(int8(b[4*i+3]))}
			fine = fine && allowed(l[i], len(l))
		}
		c, e := NewCode(l)
		if (c != nil) != fine || (e == api.OK) != fine {
			t.Fatal(l, e)
		}
		both, e := Chain(c, c)
		if (both != nil) != fine || (e == api.OK) != fine {
			t.Fatal(e)
		}
		m := machine(t, 0, 1, 2, 3)
		for _, p := range []api.Program{c, both, c} {
			m.Add(p)
		}
		picks := make([]int, len(p))
		for i, x := range p {
			picks[i] = int(x)%5 - 1
		}
		before := state(m)
		if did, e := m.Run(picks); e != api.OK && (len(did) > 0 || state(m) != before) {
			t.Fatal(did, e)
		}
		before = state(m)
		waits, stuck := m.Waits(n), m.Stuck()
		if state(m) != before {
			t.Fatal("changed by asking")
		}
		if d, e := m.Step(n); d.Waits != waits || stuck && e == api.OK && !waits {
			t.Fatal(d, e, waits, stuck)
		}
		m.Put(n, both)
	})
}
