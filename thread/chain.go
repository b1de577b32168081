package thread

import "ticketline/api"

// chain is a program that runs programs one after the other.
type chain struct {
	programs []api.Program // the one that runs, as far as it has come, and those behind it; none at the end
	result   uint64        // that of the one that has ended last
}

// Chain returns a program that runs copies of some programs one after the other, or an error.
func Chain(l ...api.Program) (api.Program, api.Errno) {
	copies, all := copiesOf(l)
	if !all {
		return nil, api.ErrNil
	}
	if len(l) == 0 {
		return nil, api.ErrArg
	}
	c := &chain{programs: copies}
	c.goOn()
	return c, api.OK
}

// goOn goes on to the first program that has not ended.
func (c *chain) goOn() {
	for len(c.programs) > 0 && hasEnded(c.programs[0]) {
		c.result = resultOf(c.programs[0])
		c.programs = c.programs[1:]
	}
}

// Step makes the next step of the program that runs, and reports whether it has waited, or returns an error.
func (c *chain) Step(m api.Memory) (bool, api.Errno) {
	if m == nil {
		return false, api.ErrNil
	}
	if c.Done() {
		return false, api.ErrEnd
	}
	p := c.programs[0]
	if !keeps(p) {
		if p = copyOf(p); p == nil {
			return false, api.ErrNil
		}
	}
	waits, e := stepOf(p, m)
	if e != api.OK {
		return false, e
	}
	c.programs[0] = p
	c.goOn()
	return waits, api.OK
}

// keeps reports whether a step of a program that returns an error is known to leave it as it is; of any other one a copy makes the step.
func keeps(p api.Program) bool {
	switch p.(type) {
	case *Code, *chain:
		return true
	}
	return false
}

// Done reports whether all programs have ended.
func (c *chain) Done() bool { return len(c.programs) == 0 }

// Result returns that of the last program, if all have ended, and 0 before.
func (c *chain) Result() uint64 {
	if !c.Done() {
		return 0
	}
	return c.result
}

// Copy returns a program that goes on independently.
func (c *chain) Copy() api.Program {
	copies, all := copiesOf(c.programs)
	if !all {
		return nil
	}
	return &chain{programs: copies, result: c.result}
}
