package thread

import (
	"math"
	"slices"
	"testing"

	"ticketline/api"
)

// P12.3 to P12.5: nil and zero machines, before all other errors.
func TestNoMachine(t *testing.T) {
	a := adder(t, 0, 1)
	for i, m := range []*Machine{nil, {}} {
		for _, p := range []api.Program{nil, a} {
			if n, e := m.Add(p); n != 0 || e != api.ErrNil {
				t.Error(i, n, e)
			}
			for _, n := range append(outside(0), 0) {
				if e := m.Put(n, p); e != api.ErrNil {
					t.Error(i, n, e)
				}
			}
		}
		for _, n := range append(outside(0), 0) {
			if d, e := m.Step(n); d != (api.Did{}) || e != api.ErrNil {
				t.Error(i, n, d, e)
			}
			if l, e := m.Run([]int{n}); len(l) > 0 || e != api.ErrNil {
				t.Error(i, n, l, e)
			}
			wantNoThread(t, m, n)
		}
		for _, many := range []int{0, MaxRun + 1} {
			if l, e := m.Run(make([]int, many)); len(l) > 0 || e != api.ErrNil {
				t.Error(i, many, e)
			}
		}
		if m.Stuck() || m.Threads() != 0 || m.Mem() != nil || m.Copy() != nil {
			t.Error(i, m.Stuck(), m.Threads())
		}
	}
}

// wantNoThread checks that nothing is known of a thread that there is not.
func wantNoThread(t *testing.T, m *Machine, n int) {
	t.Helper()
	wantThread(t, m, n, false, 0, 0, 0)
	if m.Waits(n) || m.Program(n) != nil {
		t.Error(n, m.Waits(n), m.Program(n))
	}
}

// P12.3 to P12.5: what is no thread, which comes behind a nil program, and before the other errors.
func TestNoThread(t *testing.T) {
	for many := range 3 {
		m := machine(t, 5).with(t, slices.Repeat([]api.Program{code(t, loads(0, 1))}, many)...)
		before := state(m)
		for _, n := range outside(many) {
			if d, e := m.Step(n); d != (api.Did{}) || e != api.ErrArg {
				t.Error(n, d, e)
			}
			if e := m.Put(n, adder(t, 0, 1)); e != api.ErrArg {
				t.Error(n, e)
			}
			if e := m.Put(n, nil); e != api.ErrNil {
				t.Error(n, e)
			}
			for _, picks := range [][]int{{n}, append(make([]int, many), n)} {
				if l, e := m.Run(picks); len(l) > 0 || e != api.ErrArg {
					t.Error(picks, l, e)
				}
			}
			wantNoThread(t, m, n)
		}
		if state(m) != before {
			t.Error("changed by an error")
		}
	}
}

// P12.3: a nil program, or one whose Copy is nil, or panics, comes before what is no thread, before a thread that has not ended, and before too many threads.
func TestNoProgram(t *testing.T) {
	nothing := func(*odd) api.Program { return nil }
	m := machine(t, 5).with(t, slices.Repeat([]api.Program{adder(t, 0, 1)}, 63)...).with(t, ended(t, 3))
	before := state(m)
	for i, p := range []api.Program{nil, (*Code)(nil), &Code{}, &odd{copied: nothing}, struct{ api.Program }{}, (*odd)(nil)} {
		if n, e := m.Add(p); n != 0 || e != api.ErrNil {
			t.Error(i, n, e)
		}
		for _, n := range []int{0, 63, 64, -1, math.MaxInt} {
			if e := m.Put(n, p); e != api.ErrNil {
				t.Error(i, n, e)
			}
		}
		if n, e := machine(t, 5).Add(p); n != 0 || e != api.ErrNil {
			t.Error(i, n, e)
		}
	}
	if state(m) != before {
		t.Error("changed by an error")
	}
}

// P1: programs that panic in a step, or when they are asked.
func TestPanics(t *testing.T) {
	steps := &odd{step: func(*odd, api.Memory) (bool, api.Errno) { panic("no") }}
	asked := &odd{step: func(*odd, api.Memory) (bool, api.Errno) { return false, api.OK }, done: func(*odd) bool { panic("no") }}
	m := machine(t, 5).with(t, steps, asked, &without{})
	for _, call := range []func() (any, api.Errno){
		func() (any, api.Errno) { return m.Step(0) },
		func() (any, api.Errno) { l, e := m.Run([]int{1, 0}); return len(l), e },
	} {
		if x, e := call(); e != api.ErrNil || x != (api.Did{}) && x != 0 {
			t.Error(x, e)
		}
	}
	if d, e := m.Step(1); d != (api.Did{Thread: 1}) || e != api.OK || m.Done(1) {
		t.Error(d, e)
	}
	if e := m.Put(1, steps); e != api.ErrState {
		t.Error(e)
	}
	if m.Waits(0) || m.Waits(1) || m.Stuck() || !m.Done(2) || m.Result(2) != 0 {
		t.Error(m.Waits(0), m.Waits(1), m.Done(2), m.Result(2))
	}
}

// P1: programs that have no copy any more: nothing of theirs can be looked at beforehand, or go on independently.
func TestNoCopy(t *testing.T) {
	once := &odd{
		step:   func(*odd, api.Memory) (bool, api.Errno) { return true, api.OK },
		copied: func(o *odd) api.Program { c := *o; c.copied = func(*odd) api.Program { return nil }; return &c },
	}
	m := machine(t, 5).with(t, adder(t, 0, 1), once)
	if m.Copy() != nil || m.Program(1) != nil || m.Waits(1) || m.Stuck() {
		t.Error(m.Copy(), m.Program(1), m.Waits(1))
	}
	if l, e := m.Run([]int{0, 1}); len(l) > 0 || e != api.ErrNil || m.Steps(0) != 0 {
		t.Error(l, e)
	}
	if d, e := m.Step(1); d != (api.Did{Thread: 1, Waits: true}) || e != api.OK {
		t.Error(d, e)
	}
}
