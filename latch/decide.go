package latch

import (
	"ticketline/api"
	"ticketline/qnode"
)

// decide finds out what happens, by what the words say.
func (p *Move) decide() {
	switch p.kind {
	case toGet:
		p.get()
	case toGiveBack:
		p.giveBack()
	case toGo:
		p.goOver()
	}
}

// refuse leaves everything as it is.
func (p *Move) refuse() {
	p.refused = true
	p.finish()
}

// get gets the latch, at once or behind those who wait.
func (p *Move) get() {
	s := &p.is
	switch {
	case s.of(p.thread) != api.ModeNone: // that also holds for who wants X
		p.refuse()
	case s.first == nobody && s.wants == nobody && s.goes(p.mode, false):
		s.give(p.thread, p.mode)
		p.finish()
	default:
		p.waits, p.next = true, storeMode
	}
}

// giveBack gives the latch back.
func (p *Move) giveBack() {
	s := &p.is
	if s.of(p.thread) == api.ModeNone || s.wants == p.thread {
		p.refuse()
		return
	}
	s.take(p.thread)
	p.handOn()
}

// goOver goes from U or X to another mode.
func (p *Move) goOver() {
	s := &p.is
	from := s.of(p.thread)
	switch {
	case from != api.ModeUpdate && from != api.ModeExclusive || from == p.mode || s.wants == p.thread:
		p.refuse()
	case p.mode != api.ModeExclusive:
		s.give(p.thread, p.mode)
		p.handOn()
	case s.shared == 0:
		s.give(p.thread, p.mode)
		p.finish()
	default:
		s.wants = p.thread
		p.waits, p.next = true, setWait
	}
}

// park goes on when the word wait is set: who waits for X has a place of its own.
func (p *Move) park() {
	switch {
	case p.kind == toGo:
		p.finish()
	case p.is.last == nobody:
		p.standLast()
	default:
		p.next = linkBehind
	}
}

// standLast puts the thread behind all who wait.
func (p *Move) standLast() {
	q := p.node()
	if p.is.first == nobody {
		p.is.first = q
	}
	p.is.last = q
	p.finish()
}

// handOn gives the latch to who wants X, and nobody else then, or looks at the first one who waits.
func (p *Move) handOn() {
	s := &p.is
	switch {
	case s.wants != nobody && s.shared == 0:
		q, _ := p.nodes.Of(s.wants, qnode.Latch) // read has looked whether there is such a thread
		p.woken = append(p.woken, q)
		s.give(s.wants, api.ModeExclusive)
		s.wants = nobody
		p.finish()
	case s.wants != nobody || s.first == nobody:
		p.finish()
	default:
		p.next = loadMode
	}
}

// serve gives the latch to the first one who waits, behind whom a node comes, and looks at that one then.
func (p *Move) serve(mode api.Mode, second int) {
	s := &p.is
	thread, _ := p.nodes.Owner(s.first) // whoever waits is a node that there is
	p.woken = append(p.woken, s.first)
	if s.first = second; second == nobody {
		s.last = nobody
	}
	s.give(thread, mode)
	p.handOn()
}
