package version

import (
	"slices"

	"ticketline/api"
)

// Read is a program that reads words without a latch.
type Read struct {
	common
	tries int // how many are left, with the one that runs
}

// NewRead returns a program that reads words from one on, by the version at a word, trying so many times, or an error.
func NewRead(version, from, many, tries int) (*Read, api.Errno) {
	c, e := begin(version, from, many)
	if e != api.OK {
		return nil, e
	}
	if tries < 1 {
		return nil, api.ErrArg
	}
	return &Read{c, tries}, api.OK
}

// Step makes the next step, and reports whether it has waited, or returns an error.
func (p *Read) Step(m api.Memory) (bool, api.Errno) {
	if p == nil {
		return false, api.ErrNil
	}
	return p.run(p.step, m)
}

// step makes the step that comes next.
func (p *Read) step(m api.Memory) (bool, api.Errno) {
	v, e := m.Load(p.word())
	if e != api.OK {
		return false, e
	}
	switch p.next {
	case lookFirst:
		return p.before(v), api.OK
	case oneWord:
		p.words[p.at] = v
		p.at++
		p.goOn()
	case versionAgain:
		p.after(v)
	}
	return false, api.OK
}

// before begins a try with the version, and reports whether it must wait for who writes.
func (p *Read) before(version uint64) bool {
	if !Even(version) {
		return true
	}
	p.was = version
	p.goOn()
	return false
}

// after ends a try with the version: what was read is right if nobody has begun to write meanwhile.
func (p *Read) after(version uint64) {
	if version == p.was {
		p.end(1)
		return
	}
	p.at, p.next = 0, lookFirst
	p.tries--
	if p.tries == 0 {
		p.end(0)
	}
}

// Done reports whether the program has ended.
func (p *Read) Done() bool { return p == nil || p.done() }

// Result returns 1 if the program has ended with what it has read, and 0 otherwise.
func (p *Read) Result() uint64 {
	if p == nil {
		return 0
	}
	return p.result
}

// Copy returns a program that goes on independently.
func (p *Read) Copy() api.Program {
	if p == nil || p.none() {
		return nil
	}
	return &Read{p.copied(), p.tries}
}

// Words returns what was read, in order, if the result is 1.
func (p *Read) Words() []uint64 {
	if p.Result() == 0 {
		return nil
	}
	return slices.Clone(p.words)
}

// Version returns the version that belongs to what was read, if the result is 1.
func (p *Read) Version() uint64 {
	if p.Result() == 0 {
		return 0
	}
	return p.was
}
