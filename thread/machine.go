package thread

import (
	"slices"

	"ticketline/api"
	"ticketline/mem"
)

// Machine is an arena, and threads that run programs on it.
type Machine struct {
	mem     *mem.Mem
	threads []runner
}

// runner is a thread: its program, how many steps it has made, and how many of them have waited.
type runner struct {
	program      api.Program
	steps, looks int
}

// New returns a machine with a copy of an arena, and no threads, or an error.
func New(m *mem.Mem) (*Machine, api.Errno) {
	c := m.Copy()
	if c == nil {
		return nil, api.ErrNil
	}
	return &Machine{mem: c}, api.OK
}

// Add adds a thread that runs a copy of a program, and returns its number, or an error.
func (m *Machine) Add(p api.Program) (int, api.Errno) {
	c := copyOf(p)
	if m.none() || c == nil {
		return 0, api.ErrNil
	}
	if len(m.threads) == api.MaxThreads {
		return 0, api.ErrFull
	}
	m.threads = append(m.threads, runner{program: c})
	return len(m.threads) - 1, api.OK
}

// Put gives a thread that has ended a copy of another program, or returns an error.
func (m *Machine) Put(t int, p api.Program) api.Errno {
	c := copyOf(p)
	if m.none() || c == nil {
		return api.ErrNil
	}
	if m.noThread(t) {
		return api.ErrArg
	}
	if !m.Done(t) {
		return api.ErrState
	}
	m.threads[t].program = c
	return api.OK
}

// Step lets a thread make a step, and returns what was done, or an error.
func (m *Machine) Step(t int) (api.Did, api.Errno) {
	if m.none() {
		return api.Did{}, api.ErrNil
	}
	if m.noThread(t) {
		return api.Did{}, api.ErrArg
	}
	if m.Done(t) {
		return api.Did{}, api.ErrEnd
	}
	return m.step(t)
}

// step makes a step of a thread that has not ended.
func (m *Machine) step(t int) (api.Did, api.Errno) {
	o, _ := mem.NewOnce(m.mem) // New makes no machine without an arena
	r := &m.threads[t]
	waits, e := stepOf(r.program, o)
	if e != api.OK {
		return api.Did{}, e
	}
	r.steps++
	if waits {
		r.looks++
	}
	return api.Did{Thread: t, Access: o.Access(), Waits: waits, Ended: m.Done(t)}, api.OK
}

// Run makes a step for each pick, in order, but for threads that have ended then, and returns what was done, or an error.
func (m *Machine) Run(picks []int) ([]api.Did, api.Errno) {
	if m.none() {
		return nil, api.ErrNil
	}
	if len(picks) > MaxRun {
		return nil, api.ErrLong
	}
	if slices.ContainsFunc(picks, m.noThread) {
		return nil, api.ErrArg
	}
	c := m.Copy() // it takes the place of the machine at the end, so that an error on the way changes nothing
	if c == nil {
		return nil, api.ErrNil
	}
	l, e := c.run(picks)
	if e != api.OK {
		return nil, e
	}
	*m = *c
	return l, api.OK
}

// run makes the steps of Run, up to the first error.
func (m *Machine) run(picks []int) ([]api.Did, api.Errno) {
	var l []api.Did
	for _, t := range picks {
		if m.Done(t) {
			continue
		}
		d, e := m.step(t)
		if e != api.OK {
			return nil, e
		}
		l = append(l, d)
	}
	return l, api.OK
}

// Waits reports whether the next step of a thread would wait.
func (m *Machine) Waits(t int) bool {
	if m.noThread(t) || m.Done(t) {
		return false
	}
	p := copyOf(m.threads[t].program)
	if p == nil {
		return false
	}
	o, _ := mem.NewOnce(m.mem) // New makes no machine without an arena
	waits, _ := stepOf(p, o)
	m.takeBack(o.Access())
	return waits
}

// takeBack makes the arena what it was before an access, if there was one: this costs less than a copy of the arena for each question.
func (m *Machine) takeBack(a api.Access) {
	if a.Kind != api.AccessNone {
		m.mem.Store(a.Word, a.Before)
	}
}

// Stuck reports whether some thread has not ended, and the next step of each of these would wait.
func (m *Machine) Stuck() bool {
	stuck := false
	for t := range m.Threads() {
		if m.Done(t) {
			continue
		}
		if !m.Waits(t) {
			return false
		}
		stuck = true
	}
	return stuck
}

// Threads returns how many threads there are.
func (m *Machine) Threads() int {
	if m == nil {
		return 0
	}
	return len(m.threads)
}

// Done reports whether a thread has ended.
func (m *Machine) Done(t int) bool { return !m.noThread(t) && hasEnded(m.threads[t].program) }

// Result returns the result of a thread's program.
func (m *Machine) Result(t int) uint64 {
	if m.noThread(t) {
		return 0
	}
	return resultOf(m.threads[t].program)
}

// Steps returns how many steps a thread has made.
func (m *Machine) Steps(t int) int {
	if m.noThread(t) {
		return 0
	}
	return m.threads[t].steps
}

// Looks returns how many steps of a thread have waited.
func (m *Machine) Looks(t int) int {
	if m.noThread(t) {
		return 0
	}
	return m.threads[t].looks
}

// Program returns a copy of a thread's program.
func (m *Machine) Program(t int) api.Program {
	if m.noThread(t) {
		return nil
	}
	return copyOf(m.threads[t].program)
}

// Mem returns a copy of the arena.
func (m *Machine) Mem() *mem.Mem {
	if m == nil {
		return nil
	}
	return m.mem.Copy()
}

// Copy returns a machine that goes on independently.
func (m *Machine) Copy() *Machine {
	if m.none() {
		return nil
	}
	c := &Machine{mem: m.mem.Copy(), threads: slices.Clone(m.threads)}
	for t, r := range m.threads {
		p := copyOf(r.program)
		if p == nil {
			return nil
		}
		c.threads[t].program = p
	}
	return c
}

// noThread reports whether there is no thread with a number.
func (m *Machine) noThread(t int) bool { return t < 0 || t >= m.Threads() }

// none reports whether a machine is nil or zero: New makes none without an arena.
func (m *Machine) none() bool { return m == nil || m.mem == nil }
