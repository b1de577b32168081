package mcs

import (
	"ticketline/api"
	"ticketline/qnode"
)

// The steps of Release.
const (
	lookBehind = first + iota
	freeLock
	awaitNext
	wakeNext
)

// Release is a program that gives a lock back.
type Release struct{ common }

// NewRelease returns a program by which a node gives the lock with a word back, or an error.
func NewRelease(n *qnode.Nodes, lock, node int) (*Release, api.Errno) {
	c, e := begin(n, lock, node)
	if e != api.OK {
		return nil, e
	}
	return &Release{c}, api.OK
}

// Step makes the next step, and reports whether it has waited, or returns an error.
func (r *Release) Step(m api.Memory) (bool, api.Errno) {
	if r == nil {
		return false, api.ErrNil
	}
	return r.run(r.step, m)
}

// step makes the step that comes next.
func (r *Release) step(m api.Memory) (bool, api.Errno) {
	switch r.next {
	case lookBehind:
		_, e := r.look(m, freeLock)
		return false, e
	case freeLock:
		return r.free(m)
	case awaitNext:
		is, e := r.look(m, awaitNext)
		return e == api.OK && !is, e
	}
	return r.wake(m)
}

// look looks whether somebody comes next, and reports it; if not, the step otherwise comes next.
func (r *Release) look(m api.Memory, otherwise stage) (bool, api.Errno) {
	behind, e := m.Load(r.nodes.Next(r.node))
	if e != api.OK {
		return false, e
	}
	if behind == 0 {
		r.next = otherwise
		return false, api.OK
	}
	r.meet(behind, wakeNext)
	return true, api.OK
}

// free leaves the lock to nobody, unless somebody has come meanwhile, who will say so in the word next.
func (r *Release) free(m api.Memory) (bool, api.Errno) {
	is, e := m.CAS(r.lock, r.ref(), 0)
	if e != api.OK {
		return false, e
	}
	if is {
		r.next = ended
	} else {
		r.next = awaitNext
	}
	return false, api.OK
}

// wake gives the lock on.
func (r *Release) wake(m api.Memory) (bool, api.Errno) {
	s, e := r.other()
	if e != api.OK {
		return false, e
	}
	return r.store(m, r.nodes.Wait(s), 0, ended)
}

// Done reports whether the program has ended.
func (r *Release) Done() bool { return r == nil || r.done() }

// Result returns 1 if the program has ended, and 0 before.
func (r *Release) Result() uint64 {
	if r == nil {
		return 0
	}
	return r.result()
}

// Copy returns a program that goes on independently.
func (r *Release) Copy() api.Program {
	if r == nil || r.none() {
		return nil
	}
	c := *r
	return &c
}
