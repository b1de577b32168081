package upgrade

import (
	"ticketline/api"
	"ticketline/latch"
	"ticketline/qnode"
)

// part is which of its programs a decision runs, in their order.
type part int

const (
	getting part = iota
	looking
	raising
	changing
	givingBack
	ended
)

// runner is what is needed of the program that runs.
type runner interface {
	Step(m api.Memory) (waits bool, e api.Errno)
	Done() bool
	Result() uint64
}

// Decide is a program that gets U of a latch, runs a program, and, if its result is not 0, goes to X and runs another one; then it gives the latch back.
type Decide struct {
	parts  [ended]api.Program // each one as far as it has come
	now    part
	result uint64 // that of the program to change: where it is not run, that of the program to look is 0
}

// NewDecide returns such a program of a thread for the latch at a word, with copies of both programs, or an error.
func NewDecide(n *qnode.Nodes, at, thread int, look, change api.Program) (*Decide, api.Errno) {
	look, change = copyOf(look), copyOf(change)
	if look == nil || change == nil {
		return nil, api.ErrNil
	}
	get, e := latch.NewAcquire(n, at, thread, api.ModeUpdate)
	if e != api.OK {
		return nil, e
	}
	raise, e := NewRaise(n, at, thread)
	if e != api.OK {
		return nil, e
	}
	giveBack, e := latch.NewRelease(n, at, thread)
	if e != api.OK {
		return nil, e
	}
	return &Decide{parts: [ended]api.Program{get, look, raise, change, giveBack}}, api.OK
}

// Step makes the next step, and reports whether it has waited, or returns an error.
func (d *Decide) Step(m api.Memory) (waits bool, e api.Errno) {
	if d.none() || m == nil {
		return false, api.ErrNil
	}
	if d.now == ended {
		return false, api.ErrEnd
	}
	defer func() {
		if recover() != nil { // programs and a Memory of other packages may have nothing behind their interfaces
			waits, e = false, api.ErrNil
		}
	}()
	return d.step(m)
}

// step makes the step that comes next. What runs may be anybody's, and panic: whether it has ended is asked before the next access, so that nothing has changed then.
func (d *Decide) step(m api.Memory) (bool, api.Errno) {
	c := *d
	c.goOn()
	if !keeps(c.running()) {
		p := copyOf(c.parts[c.now])
		if p == nil {
			return false, api.ErrNil
		}
		c.parts[c.now] = p
	}
	waits, e := c.running().Step(m)
	if e != api.OK {
		return false, e
	}
	if c.moves() {
		c.goOn() // the decision ends with the last step of a move
	}
	*d = c
	return waits, api.OK
}

// keeps reports whether a step of a program that returns an error is known to leave it as it is; of any other one a copy makes the step.
func keeps(p runner) bool {
	switch p.(type) {
	case *latch.Move, *Decide:
		return true
	}
	return false
}

// running returns the program that runs.
func (d *Decide) running() runner { return d.parts[d.now] }

// moves reports whether a move runs, and not a program of somebody else.
func (d *Decide) moves() bool { return d.now != looking && d.now != changing }

// goOn goes on to the next program, if the one that runs has ended, or had before its first step.
func (d *Decide) goOn() {
	if d.running().Done() {
		d.now = d.then()
	}
}

// then returns which program comes behind the one that has ended, by its result.
func (d *Decide) then() part {
	result := d.running().Result()
	switch d.now {
	case getting:
		if result == 0 {
			return ended // refused: there is nothing to be given back
		}
		return looking
	case looking:
		if result == 0 {
			return givingBack // the result of it all is 0, too
		}
		return raising
	case raising:
		return changing
	case changing:
		d.result = result
		return givingBack
	}
	return ended
}

// Done reports whether the program has ended.
func (d *Decide) Done() bool { return d.none() || d.now == ended }

// Result returns the result of the last program to look or to change that was run, if the program has ended, and 0 before.
func (d *Decide) Result() uint64 {
	if d.none() || d.now != ended {
		return 0
	}
	return d.result
}

// Copy returns a program that goes on independently.
func (d *Decide) Copy() api.Program {
	if d.none() {
		return nil
	}
	c := *d
	for i := d.now; i < ended; i++ { // those before it make no step any more
		if c.parts[i] = copyOf(d.parts[i]); c.parts[i] == nil {
			return nil
		}
	}
	return &c
}

// none reports whether a program is nil or zero: NewDecide makes none without parts.
func (d *Decide) none() bool { return d == nil || d.parts[getting] == nil }

// copyOf returns a copy of a program, or nil, if it has none.
func copyOf(p api.Program) (c api.Program) {
	defer func() {
		if recover() != nil { // a program of another package may have nothing behind its interface
			c = nil
		}
	}()
	if p == nil {
		return nil
	}
	return p.Copy()
}
