package thread

import (
	"slices"

	"ticketline/api"
)

// Code is a program of instructions.
type Code struct {
	instrs    []api.Instr // never changed, so that copies have them in common
	registers [Registers]uint64
	next      int // the index of the instruction that comes next, or, at the end, how many there are
	result    uint64
}

// NewCode returns a program of instructions, or an error.
func NewCode(l []api.Instr) (*Code, api.Errno) {
	if len(l) < 1 || len(l) > MaxCode {
		return nil, api.ErrArg
	}
	for _, in := range l {
		if !allowed(in, len(l)) {
			return nil, api.ErrArg
		}
	}
	return &Code{instrs: slices.Clone(l)}, api.OK
}

// allowed reports whether an instruction may be one of so many.
func allowed(in api.Instr, many int) bool {
	register := in.R >= 0 && in.R < Registers
	word := in.W >= 0 && in.W < api.MaxWords
	switch in.Kind {
	case api.InstrLoad, api.InstrStore, api.InstrSwap, api.InstrCAS:
		return register && word
	case api.InstrAwait:
		return word
	case api.InstrSet, api.InstrAdd, api.InstrEnd:
		return register
	case api.InstrJump:
		return register && in.W >= 0 && in.W < many
	}
	return false
}

// Step makes the next step, and reports whether it has waited, or returns an error.
func (c *Code) Step(m api.Memory) (waits bool, e api.Errno) {
	if c.none() || m == nil {
		return false, api.ErrNil
	}
	if c.Done() {
		return false, api.ErrEnd
	}
	defer func() {
		if recover() != nil { // a Memory of another package may have nothing behind its interface
			waits, e = false, api.ErrNil
		}
	}()
	return c.step(m)
}

// step makes the instruction that comes next. Each of them makes its access first, so that an error of it changes nothing.
func (c *Code) step(m api.Memory) (bool, api.Errno) {
	in := c.instrs[c.next]
	switch in.Kind {
	case api.InstrAwait:
		v, e := m.Load(in.W)
		if e != api.OK {
			return false, e
		}
		if v != in.V {
			return true, api.OK
		}
	case api.InstrSet:
		c.registers[in.R] = in.V
	case api.InstrAdd:
		c.registers[in.R] += in.V
	case api.InstrJump, api.InstrEnd: // they change nothing but where it goes on
	default:
		v, e := c.access(m, in)
		if e != api.OK {
			return false, e
		}
		c.registers[in.R] = v
	}
	c.goOn(in)
	return false, api.OK
}

// access makes the access of an instruction, and returns what its register becomes.
func (c *Code) access(m api.Memory, in api.Instr) (uint64, api.Errno) {
	v := c.registers[in.R]
	switch in.Kind {
	case api.InstrLoad:
		return m.Load(in.W)
	case api.InstrSwap:
		return m.Swap(in.W, v)
	case api.InstrCAS:
		is, e := m.CAS(in.W, in.V, v)
		if is {
			return 1, e
		}
		return 0, e
	}
	return v, m.Store(in.W, v)
}

// goOn goes on behind an instruction.
func (c *Code) goOn(in api.Instr) {
	switch {
	case in.Kind == api.InstrEnd:
		c.end(c.registers[in.R])
	case in.Kind == api.InstrJump && c.registers[in.R] == in.V:
		c.next = in.W
	case c.next == len(c.instrs)-1:
		c.end(c.registers[0])
	default:
		c.next++
	}
}

// end ends the program.
func (c *Code) end(result uint64) { c.next, c.result = len(c.instrs), result }

// Done reports whether the program has ended.
func (c *Code) Done() bool { return c == nil || c.next == len(c.instrs) }

// Result returns the register with which the program has ended, and 0 before.
func (c *Code) Result() uint64 {
	if c == nil {
		return 0
	}
	return c.result
}

// Copy returns a program that goes on independently.
func (c *Code) Copy() api.Program {
	if c.none() {
		return nil
	}
	o := *c
	return &o
}

// none reports whether a program is nil or zero: NewCode makes none without instructions.
func (c *Code) none() bool { return c == nil || len(c.instrs) == 0 }
