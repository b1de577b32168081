package mcs

import (
	"ticketline/api"
	"ticketline/qnode"
)

// The steps of Acquire.
const (
	clearNext = first + iota
	setWait
	swapLock
	linkBehind
	awaitTurn
)

// Acquire is a program that gets a lock.
type Acquire struct{ common }

// NewAcquire returns a program by which a node gets the lock with a word, or an error.
func NewAcquire(n *qnode.Nodes, lock, node int) (*Acquire, api.Errno) {
	c, e := begin(n, lock, node)
	if e != api.OK {
		return nil, e
	}
	return &Acquire{c}, api.OK
}

// Step makes the next step, and reports whether it has waited, or returns an error.
func (a *Acquire) Step(m api.Memory) (bool, api.Errno) {
	if a == nil {
		return false, api.ErrNil
	}
	return a.run(a.step, m)
}

// step makes the step that comes next.
func (a *Acquire) step(m api.Memory) (bool, api.Errno) {
	switch a.next {
	case clearNext:
		return a.store(m, a.nodes.Next(a.node), 0, setWait)
	case setWait:
		return a.store(m, a.nodes.Wait(a.node), 1, swapLock)
	case swapLock:
		return a.swap(m)
	case linkBehind:
		return a.link(m)
	}
	return a.await(m)
}

// swap takes the place of the one that has come last, if there is one.
func (a *Acquire) swap(m api.Memory) (bool, api.Errno) {
	last, e := m.Swap(a.lock, a.ref())
	if e != api.OK {
		return false, e
	}
	if last == 0 {
		a.next = ended
	} else {
		a.meet(last, linkBehind)
	}
	return false, api.OK
}

// link lets the one before know who comes next.
func (a *Acquire) link(m api.Memory) (bool, api.Errno) {
	p, e := a.other()
	if e != api.OK {
		return false, e
	}
	return a.store(m, a.nodes.Next(p), a.ref(), awaitTurn)
}

// await waits until the one before gives the lock on.
func (a *Acquire) await(m api.Memory) (bool, api.Errno) {
	wait, e := m.Load(a.nodes.Wait(a.node))
	if e != api.OK {
		return false, e
	}
	if wait != 0 {
		return true, api.OK
	}
	a.next = ended
	return false, api.OK
}

// Done reports whether the program has ended.
func (a *Acquire) Done() bool { return a == nil || a.done() }

// Result returns 1 if the program has ended, and 0 before.
func (a *Acquire) Result() uint64 {
	if a == nil {
		return 0
	}
	return a.result()
}

// Copy returns a program that goes on independently.
func (a *Acquire) Copy() api.Program {
	if a == nil || a.none() {
		return nil
	}
	c := *a
	return &c
}
