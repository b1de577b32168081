package thread

import (
	"math"
	"slices"
	"testing"

	"ticketline/api"
	"ticketline/mem"
)

// outside returns numbers that are no threads of a machine with so many.
func outside(threads int) []int {
	return []int{-1, threads, threads + 1, 64, math.MinInt, math.MaxInt, 1 << 32, -1 << 32}
}

// wantThread checks what is known of a thread.
func wantThread(t *testing.T, m *Machine, n int, done bool, result uint64, steps, looks int) {
	t.Helper()
	if m.Done(n) != done || m.Result(n) != result || m.Steps(n) != steps || m.Looks(n) != looks {
		t.Error(n, m.Done(n), m.Result(n), m.Steps(n), m.Looks(n), "and not", done, result, steps, looks)
	}
	if n >= 0 && n < m.Threads() && (m.Program(n).Done() != done || m.Program(n).Result() != result) {
		t.Error(n, "has a program that", m.Program(n).Done(), m.Program(n).Result())
	}
}

// example returns the machine of the chapter's examples.
func example(t *testing.T) *Machine {
	t.Helper()
	return machine(t, 0, 0, 0, 0).with(t, exampleA(t), exampleA(t), exampleB(t))
}

// P12.3 to P12.5: the chapter's examples.
func TestExamples(t *testing.T) {
	m := example(t)
	run(t, m, 0, 1, 2, 0, 1, 0, 1, 0, 1, 2)
	wantWords(t, m.Mem(), 1, 0, 0, 0)
	wantThread(t, m, 0, true, 1, 4, 0)
	wantThread(t, m, 1, true, 1, 4, 0)
	wantThread(t, m, 2, false, 0, 2, 2)
	m = example(t)
	if !m.Waits(2) || m.Stuck() {
		t.Error(m.Waits(2), m.Stuck())
	}
	run(t, m, 0, 0, 0, 0, 1, 1, 1, 1, 2, 2)
	wantWords(t, m.Mem(), 2, 0, 0, 0)
	wantThread(t, m, 0, true, 1, 4, 0)
	wantThread(t, m, 1, true, 2, 4, 0)
	wantThread(t, m, 2, true, 9, 2, 0)
	for n := range 3 {
		if e := m.Put(n, exampleB(t)); e != api.OK {
			t.Error(n, e)
		}
	}
	if m.Waits(0) || m.Stuck() {
		t.Error(m.Waits(0), m.Stuck())
	}
	m = example(t)
	if d, e := m.Step(3); d != (api.Did{}) || e != api.ErrArg {
		t.Error(d, e)
	}
	if e := m.Put(0, exampleA(t)); e != api.ErrState {
		t.Error(e)
	}
	if l, e := m.Run([]int{0, 7}); len(l) > 0 || e != api.ErrArg {
		t.Error(l, e)
	}
}

// P12.3: a machine has a copy of an arena, of any size.
func TestNew(t *testing.T) {
	for _, words := range []int{1, 7, api.MaxWords} {
		a, _ := mem.New(words)
		a.Store(words-1, 3)
		m, e := New(a)
		if m == nil || e != api.OK || m.Threads() != 0 || m.Stuck() || !m.Mem().Same(a) {
			t.Fatal(e)
		}
		was := a.Copy()
		a.Store(0, 8)
		m.Mem().Store(0, 9)
		if !m.Mem().Same(was) {
			t.Error("shares its words")
		}
		m.with(t, code(t, sets(0, 5), stores(0, 0)))
		run(t, m, 0, 0)
		if v, _ := a.Load(0); v != 8 {
			t.Error("has changed the arena that it was made with")
		}
		if v, _ := m.Mem().Load(0); v != 5 {
			t.Error(v)
		}
	}
	for i, a := range []*mem.Mem{nil, {}} {
		if m, e := New(a); m != nil || e != api.ErrNil {
			t.Error(i, e)
		}
	}
}

// P12.3: threads have the numbers from 0 on, up to 64 of them, and run copies of programs as they are.
func TestAdd(t *testing.T) {
	m := machine(t, 0)
	p := adder(t, 0, 1)
	p.Step(arena(t, 40))
	was := dump(p)
	for n := range 64 {
		if i, e := m.Add(p); i != n || e != api.OK || m.Threads() != n+1 {
			t.Fatal(n, i, e)
		}
		wantThread(t, m, n, false, 0, 0, 0)
	}
	before := state(m)
	for range 2 {
		if i, e := m.Add(p); i != 0 || e != api.ErrFull {
			t.Error(i, e)
		}
	}
	if i, e := m.Add(nil); i != 0 || e != api.ErrNil {
		t.Error(i, e)
	}
	if state(m) != before {
		t.Error("changed by an error")
	}
	for _, n := range []int{63, 63, 5} {
		if _, e := m.Step(n); e != api.OK || dump(p) != was {
			t.Error(n, "the program itself has gone on", e)
		}
	}
	wantThread(t, m, 63, true, 41, 2, 0)
	wantThread(t, m, 5, false, 0, 1, 0)
	wantWords(t, m.Mem(), 41)
	p.Step(arena(t, 0))
	wantThread(t, m, 6, false, 0, 0, 0)
	if l := run(t, m, 6); l[0].Access.Kind != api.AccessNone {
		t.Error("goes on with the program that it was given", l)
	}
}

// P12.3: a thread whose program has ended from the first on has ended.
func TestAddEnded(t *testing.T) {
	m := machine(t, 0).with(t, ended(t, 7))
	wantThread(t, m, 0, true, 7, 0, 0)
	if _, e := m.Step(0); e != api.ErrEnd || m.Stuck() || m.Waits(0) {
		t.Error(e)
	}
	if l := run(t, m, 0, 0); len(l) > 0 {
		t.Error(l)
	}
	if e := m.Put(0, adder(t, 0, 1)); e != api.OK {
		t.Error(e)
	}
	wantThread(t, m, 0, false, 0, 0, 0)
}

// P12.3: steps and looks are counted with those before, and the program is a copy, as it is.
func TestPut(t *testing.T) {
	m := machine(t, 1, 0).with(t, code(t, awaits(0, 0), sets(0, 4)), code(t, sets(1, 0), stores(1, 0)))
	run(t, m, 0, 0, 1, 1, 0, 0)
	wantThread(t, m, 0, true, 4, 4, 2)
	p := code(t, sets(2, 3), awaits(1, 0), ends(2))
	p.Step(arena(t, 0))
	was := dump(p)
	if e := m.Put(0, p); e != api.OK {
		t.Error(e)
	}
	wantThread(t, m, 0, false, 0, 4, 2)
	wantThread(t, m, 1, true, 0, 2, 0)
	before := state(m)
	if e := m.Put(0, p); e != api.ErrState || state(m) != before {
		t.Error(e)
	}
	run(t, m, 0, 0)
	wantThread(t, m, 0, true, 3, 6, 2)
	if e := m.Put(1, code(t, awaits(1, 1))); e != api.OK {
		t.Error(e)
	}
	run(t, m, 1, 1, 1)
	wantThread(t, m, 1, false, 0, 5, 3)
	m.Put(0, p)
	if d, e := m.Step(0); d.Waits || e != api.OK || dump(p) != was {
		t.Error("the program itself has gone on", d, e)
	}
	m.Step(0)
	if e := m.Put(0, ended(t, 8)); e != api.OK || m.Threads() != 2 {
		t.Error(e)
	}
	wantThread(t, m, 0, true, 8, 8, 2)
}

// P12.4: what was done, for steps with each access, without one, that wait, and that are the last one.
func TestStep(t *testing.T) {
	m := machine(t, 5, 6, 7).with(t, ended(t, 0), code(t, loads(0, 1), adds(0, 3), stores(0, 2), swaps(0, 2), cas(0, 0, 5), cas(0, 0, 5), awaits(1, 2), awaits(1, 6), ends(3)))
	cases := []api.Did{
		{Access: load(1, 6)},
		{},
		{Access: store(2, 7, 9)},
		{Access: api.Access{Kind: api.AccessSwap, Word: 2, Before: 9, After: 9}},
		{Access: api.Access{Kind: api.AccessCAS, Before: 5, After: 9}},
		{Access: api.Access{Kind: api.AccessCAS, Before: 9, After: 9}},
		{Access: load(1, 6), Waits: true},
		{Access: load(1, 6), Waits: true},
	}
	looks := 0
	for i, want := range cases {
		want.Thread = 1
		if m.Waits(1) != want.Waits {
			t.Error(i, m.Waits(1))
		}
		if d, e := m.Step(1); d != want || e != api.OK {
			t.Error(i, d, e)
		}
		if want.Waits {
			looks++
		}
		wantThread(t, m, 1, false, 0, i+1, looks)
	}
	m = machine(t, 3).with(t, code(t, stores(0, 0)), code(t, sets(0, 8)))
	if d, e := m.Step(0); d != (api.Did{Access: store(0, 3, 0), Ended: true}) || e != api.OK {
		t.Error(d, e)
	}
	if d, e := m.Step(1); d != (api.Did{Thread: 1, Ended: true}) || e != api.OK {
		t.Error(d, e)
	}
	for n := range 2 {
		if d, e := m.Step(n); d != (api.Did{}) || e != api.ErrEnd {
			t.Error(d, e)
		}
		wantThread(t, m, n, true, uint64(8*n), 1, 0)
	}
}

// P12.4: a step is one on an arena that allows one access, of any program, with the words of the machine.
func TestOneAccess(t *testing.T) {
	var errors []api.Errno
	two := &odd{step: func(o *odd, m api.Memory) (bool, api.Errno) {
		errors = errors[:0]
		v, e := m.Load(9)
		is, f := m.CAS(1, 4, 7)
		w, g := m.Load(0)
		h := m.Store(0, v+w)
		errors = append(errors, e, f, g, h)
		if !is || m.Len() != 2 || m.(*mem.Once).Access().Word != 1 {
			errors = append(errors, api.ErrCheck)
		}
		return false, api.OK
	}}
	m := machine(t, 3, 4).with(t, two)
	d, e := m.Step(0)
	if d != (api.Did{Access: api.Access{Kind: api.AccessCAS, Word: 1, Before: 4, After: 7}}) || e != api.OK {
		t.Error(d, e)
	}
	if !slices.Equal(errors, []api.Errno{api.ErrRange, api.OK, api.ErrBusy, api.ErrBusy}) {
		t.Error(errors)
	}
	wantWords(t, m.Mem(), 3, 7)
}

// P12.4: a schedule, in order, without those that have ended then; a thread that ends on the way is left out from there on.
func TestRun(t *testing.T) {
	two := func() *Code { return code(t, adds(0, 1), stores(0, 0)) }
	m := machine(t, 0, 0).with(t, two(), code(t, awaits(0, 1), stores(0, 1)), ended(t, 2))
	l := run(t, m, 2, 1, 0, 0, 0, 1, 2, 0, 1, 1, 2)
	want := []api.Did{
		{Thread: 1, Access: load(0, 0), Waits: true},
		{Thread: 0},
		{Thread: 0, Access: store(0, 0, 1), Ended: true},
		{Thread: 1, Access: load(0, 1)},
		{Thread: 1, Access: store(1, 0, 0), Ended: true},
	}
	if !slices.Equal(l, want) {
		t.Error(l)
	}
	before := state(m)
	for _, picks := range [][]int{nil, {}, {0}, {2, 1, 0}} {
		if l := run(t, m, picks...); len(l) > 0 || state(m) != before {
			t.Error(picks, l)
		}
	}
	if l, e := machine(t, 0).Run(nil); len(l) > 0 || e != api.OK {
		t.Error(l, e)
	}
}

// P12.4: a list of picks is not changed, and may have MaxRun of them.
func TestManyPicks(t *testing.T) {
	m := machine(t, 0).with(t, code(t, adds(0, 1), jumps(1, 0, 0)), code(t, awaits(0, 1)), ended(t, 0))
	l := make([]int, MaxRun)
	for i := range l {
		l[i] = i % 3
	}
	was := slices.Clone(l)
	did := run(t, m, l...)
	if len(did) != MaxRun*2/3+1 || !slices.Equal(l, was) {
		t.Error(len(did))
	}
	wantThread(t, m, 0, false, 0, 33334, 0)
	wantThread(t, m, 1, false, 0, 33333, 33333)
	before := state(m)
	for _, more := range []int{0, 2, -1, 3} { // too many come before those that are no threads
		if d, e := m.Run(append(l, more)); len(d) > 0 || e != api.ErrLong {
			t.Error(more, e)
		}
	}
	if state(m) != before {
		t.Error("changed by an error")
	}
}

// P12.4: a run with an error on the way changes nothing at all, and the first error counts; what a program changes before it returns one does not stay, either.
func TestRunErrors(t *testing.T) {
	far := code(t, sets(0, 4), stores(0, 0), loads(0, 2))
	stop := code(t, sets(0, 4), sets(0, 4), stores(0, 3), sets(0, 4))
	wrong := &odd{step: func(o *odd, m api.Memory) (bool, api.Errno) {
		m.Store(1, 44)
		return true, api.ErrCheck
	}}
	for _, c := range []struct {
		picks []int
		want  api.Errno
	}{
		{[]int{0, 0, 0}, api.ErrRange},
		{[]int{0, 0, 2, 0}, api.ErrCheck},
		{[]int{2}, api.ErrCheck},
		{[]int{0, 0, 0, 2}, api.ErrRange},
		{[]int{3, 0, 3, 1, 1, 3, 1, 2}, api.ErrRange},
		{[]int{4, 4, 4, 3, 2}, api.ErrCheck},
		{[]int{2, 5}, api.ErrArg},
		{[]int{0, 0, -1, 2}, api.ErrArg},
		{[]int{0, 0, 0, math.MaxInt}, api.ErrArg},
	} {
		m := machine(t, 5, 6).with(t, far, stop, wrong, code(t, awaits(1, 0)), adder(t, 0, 1))
		before := state(m)
		if l, e := m.Run(c.picks); len(l) > 0 || e != c.want || state(m) != before {
			t.Error(c.picks, l, e)
		}
	}
}

// P12.4: a step with an error is none of the machine's; a program goes on as it likes, and what it has changed stays.
func TestStepErrors(t *testing.T) {
	wrong := &odd{step: func(o *odd, m api.Memory) (bool, api.Errno) {
		m.Store(1, uint64(o.calls))
		return true, api.Errno(90 + o.calls)
	}}
	m := machine(t, 5, 6).with(t, wrong, code(t, loads(0, 2), sets(0, 4)))
	for n := 1; n <= 3; n++ {
		if d, e := m.Step(0); d != (api.Did{}) || e != api.Errno(90+n) || m.Waits(0) {
			t.Error(d, e)
		}
		wantThread(t, m, 0, false, uint64(n), 0, 0)
		wantWords(t, m.Mem(), 5, uint64(n))
	}
	before := state(m)
	for range 2 {
		if d, e := m.Step(1); d != (api.Did{}) || e != api.ErrRange || state(m) != before || m.Waits(1) {
			t.Error(d, e)
		}
	}
}

// P12.5: Waits and Stuck; neither the arena nor the program changes by asking.
func TestWaits(t *testing.T) {
	waiting := func(v uint64) *Code { return code(t, awaits(0, v), sets(0, 3)) }
	sleeping := &odd{step: func(*odd, api.Memory) (bool, api.Errno) { return true, api.OK }, done: func(*odd) bool { return true }}
	for i, c := range []struct {
		l     []api.Program
		waits []bool
		stuck bool
	}{
		{nil, nil, false},
		{[]api.Program{waiting(4)}, []bool{true}, true},
		{[]api.Program{waiting(5)}, []bool{false}, false},
		{[]api.Program{waiting(4), waiting(3), waiting(2)}, []bool{true, true, true}, true},
		{[]api.Program{waiting(4), waiting(5), waiting(2)}, []bool{true, false, true}, false},
		{[]api.Program{ended(t, 1), waiting(2), ended(t, 0)}, []bool{false, true, false}, true},
		{[]api.Program{ended(t, 1), ended(t, 0)}, []bool{false, false}, false},
		{[]api.Program{waiting(2), code(t, loads(0, 1))}, []bool{true, false}, false}, // an error does not wait
		{[]api.Program{waiting(2), code(t, stores(0, 0))}, []bool{true, false}, false},
		{[]api.Program{code(t, swaps(0, 0)), code(t, cas(0, 0, 5)), adder(t, 0, 1), code(t, sets(0, 1))}, []bool{false, false, false, false}, false},
		{[]api.Program{chained(t, waiting(2), waiting(5))}, []bool{true}, true},
		{[]api.Program{after(3, 0)}, []bool{false}, false},
		{[]api.Program{sleeping}, []bool{false}, false}, // it has ended
		{[]api.Program{sleeping, waiting(4), sleeping}, []bool{false, true, false}, true},
	} {
		m := machine(t, 5).with(t, c.l...)
		before := state(m)
		for range 2 {
			for n, want := range c.waits {
				if m.Waits(n) != want {
					t.Error(i, n, m.Waits(n))
				}
			}
			if m.Stuck() != c.stuck || state(m) != before {
				t.Error(i, m.Stuck())
			}
		}
	}
}

// P12.5: a program of somebody else that changes a word, and waits, or has an error, or panics then: asking changes nothing.
func TestWaitsTakesBack(t *testing.T) {
	ways := []func(m api.Memory){
		func(m api.Memory) { m.Store(1, 9) },
		func(m api.Memory) { m.Swap(1, 9) },
		func(m api.Memory) { m.CAS(1, 6, 9) },
		func(m api.Memory) { m.CAS(1, 5, 9) },
		func(m api.Memory) { m.Store(7, 9); m.Store(0, 9); m.Store(1, 9) },
		func(m api.Memory) {},
	}
	for i, way := range ways {
		for j, end := range []func() (bool, api.Errno){
			func() (bool, api.Errno) { return true, api.OK },
			func() (bool, api.Errno) { return false, api.OK },
			func() (bool, api.Errno) { return true, api.ErrFull },
			func() (bool, api.Errno) { panic("no") },
		} {
			p := &odd{step: func(o *odd, m api.Memory) (bool, api.Errno) { way(m); return end() }}
			m := machine(t, 5, 6).with(t, p)
			before := state(m)
			if m.Waits(0) != (j == 0) || m.Stuck() != (j == 0) || state(m) != before {
				t.Error(i, j, m.Waits(0))
			}
			wantWords(t, m.Mem(), 5, 6)
		}
	}
}

// P12.5: what Program, Mem and Copy return goes on independently.
func TestCopies(t *testing.T) {
	m := example(t)
	run(t, m, 0, 1, 0, 2)
	before := state(m)
	c, p, a := m.Copy(), m.Program(0), m.Mem()
	if state(c) != before || c.Threads() != 3 {
		t.Error("another machine")
	}
	toEnd(t, p, a, 2, 1)
	a.Store(3, 7)
	run(t, c, 0, 0, 1, 1, 1, 2, 2)
	c.with(t, exampleA(t))
	c.Put(0, exampleB(t))
	if state(m) != before || m.Threads() != 3 {
		t.Error("changed with a copy")
	}
	d, is := m.Copy(), state(c)
	run(t, m, 1, 1, 1, 2, 0, 0)
	m.with(t, exampleB(t), exampleB(t))
	if state(c) != is || state(d) != before {
		t.Error("a copy has changed")
	}
	run(t, d, 1, 1, 1, 2, 0, 0)
	d.with(t, exampleB(t), exampleB(t))
	if state(d) != state(m) {
		t.Error("goes on in another way")
	}
}
