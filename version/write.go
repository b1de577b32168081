package version

import "ticketline/api"

// Write is a program that writes words under a version.
type Write struct{ common }

// NewWrite returns a program that writes words from one on, under the version at a word, or an error.
func NewWrite(version, from int, words []uint64) (*Write, api.Errno) {
	c, e := begin(version, from, len(words))
	if e != api.OK {
		return nil, e
	}
	copy(c.words, words)
	return &Write{c}, api.OK
}

// Step makes the next step, which never waits, or returns an error.
func (p *Write) Step(m api.Memory) (bool, api.Errno) {
	if p == nil {
		return false, api.ErrNil
	}
	return p.run(p.step, m)
}

// step makes the step that comes next.
func (p *Write) step(m api.Memory) (bool, api.Errno) {
	if p.next == lookFirst {
		return false, p.look(m)
	}
	if e := m.Store(p.word(), p.value()); e != api.OK {
		return false, e
	}
	switch p.next {
	case makeOdd:
		p.goOn()
	case oneWord:
		p.at++
		p.goOn()
	case versionAgain:
		p.end(1)
	}
	return false, api.OK
}

// look keeps what the version is, unless somebody else writes.
func (p *Write) look(m api.Memory) api.Errno {
	v, e := m.Load(p.word())
	if e != api.OK {
		return e
	}
	if !Even(v) {
		return api.ErrState
	}
	p.was, p.next = v, makeOdd
	return api.OK
}

// value returns what the word that the next step stores becomes.
func (p *Write) value() uint64 {
	switch p.next {
	case makeOdd:
		return p.was + 1
	case oneWord:
		return p.words[p.at]
	}
	return p.was + 2
}

// Done reports whether the program has ended.
func (p *Write) Done() bool { return p == nil || p.done() }

// Result returns 1 if the program has ended, and 0 before.
func (p *Write) Result() uint64 {
	if p == nil {
		return 0
	}
	return p.result
}

// Copy returns a program that goes on independently.
func (p *Write) Copy() api.Program {
	if p == nil || p.none() {
		return nil
	}
	return &Write{p.copied()}
}
