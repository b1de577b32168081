package latch

import (
	"slices"

	"ticketline/api"
	"ticketline/mcs"
	"ticketline/modes"
	"ticketline/qnode"
)

// kind is what a program is for.
type kind int

const (
	toGet kind = iota
	toGiveBack
	toGo
)

// Move is a program by which a thread gets a latch, gives it back, or goes from one mode to another one.
type Move struct {
	nodes      qnode.Nodes // a copy, so that what becomes of the caller's changes nothing here
	at, thread int
	kind       kind
	mode       api.Mode

	next         stage
	enter, leave api.Program // by which the guard is got, and given back
	was          [2]uint64   // what the words of the latch are now
	is           state       // what they are to say
	front        api.Mode    // what the first one waits for, while the one behind it is looked for
	woken        []int       // the nodes that are to be woken yet
	refused      bool
	waits        bool // the thread is to wait
}

// NewAcquire returns a program by which a thread gets the latch at a word in a mode, or an error.
func NewAcquire(n *qnode.Nodes, at, thread int, mode api.Mode) (*Move, api.Errno) {
	return begin(n, Move{at: at, thread: thread, kind: toGet, mode: mode})
}

// NewRelease returns a program by which a thread gives the latch at a word back, or an error.
func NewRelease(n *qnode.Nodes, at, thread int) (*Move, api.Errno) {
	return begin(n, Move{at: at, thread: thread, kind: toGiveBack})
}

// NewMove returns a program by which a thread goes from the mode in which it holds the latch at a word to another one, or an error.
func NewMove(n *qnode.Nodes, at, thread int, mode api.Mode) (*Move, api.Errno) {
	return begin(n, Move{at: at, thread: thread, kind: toGo, mode: mode})
}

// begin returns a program at its first step, or an error.
func begin(n *qnode.Nodes, p Move) (*Move, api.Errno) {
	if n.Threads() == 0 {
		return nil, api.ErrNil
	}
	plain, e := n.Of(p.thread, qnode.Plain)
	if e != api.OK || !mayBe(n, p.at) || p.kind != toGiveBack && !modes.Valid(p.mode) {
		return nil, api.ErrArg
	}
	enter, e := mcs.NewAcquire(n, p.at+guardWord, plain)
	if e != api.OK {
		return nil, e
	}
	leave, e := mcs.NewRelease(n, p.at+guardWord, plain)
	if e != api.OK {
		return nil, e
	}
	p.nodes, p.enter, p.leave, p.next = *n, enter, leave, getGuard
	return &p, api.OK
}

// Step makes the next step, and reports whether it has waited, or returns an error.
func (p *Move) Step(m api.Memory) (waits bool, e api.Errno) {
	if p.none() || m == nil {
		return false, api.ErrNil
	}
	if p.next == ended {
		return false, api.ErrEnd
	}
	defer func() {
		if recover() != nil { // a Memory of another package may have nothing behind its interface
			waits, e = false, api.ErrNil
		}
	}()
	return p.step(m)
}

// Done reports whether the program has ended.
func (p *Move) Done() bool { return p.none() || p.next == ended }

// Result returns 1 if the program has ended, 0 before, and if it was refused.
func (p *Move) Result() uint64 {
	if p.none() || p.next != ended || p.refused {
		return 0
	}
	return 1
}

// Copy returns a program that goes on independently.
func (p *Move) Copy() api.Program {
	if p.none() {
		return nil
	}
	c := *p
	c.enter, c.leave, c.woken = p.enter.Copy(), p.leave.Copy(), slices.Clone(p.woken)
	return &c
}

// none reports whether a program is nil or zero: begin makes none without nodes.
func (p *Move) none() bool { return p == nil || p.nodes.Threads() == 0 }
