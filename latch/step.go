package latch

import (
	"ticketline/api"
	"ticketline/qnode"
)

// stage is which of its steps a program makes next.
type stage int

const (
	ended stage = iota
	getGuard
	loadBits
	loadState
	storeMode
	clearNext
	setWait
	linkBehind
	loadMode
	loadNext
	storeBits
	storeState
	wake
	giveGuard
	await
)

// step makes the step that comes next. Each of them makes its access first, so that an error of it changes nothing.
func (p *Move) step(m api.Memory) (bool, api.Errno) {
	switch p.next {
	case getGuard:
		return p.guard(m, p.enter, loadBits)
	case giveGuard:
		if p.waits {
			return p.guard(m, p.leave, await)
		}
		return p.guard(m, p.leave, ended)
	case await:
		return p.await(m)
	case loadBits:
		return false, p.readBits(m)
	case loadState:
		return false, p.readState(m)
	case loadMode:
		return false, p.readMode(m)
	case loadNext:
		return false, p.readNext(m)
	}
	return false, p.store(m)
}

// guard makes a step of a program for the guard, behind whose last one another one comes.
func (p *Move) guard(m api.Memory, run api.Program, then stage) (bool, api.Errno) {
	waits, e := run.Step(m)
	if e == api.OK && run.Done() {
		p.next = then
	}
	return waits, e
}

// await waits until somebody who hands the latch on wakes the thread.
func (p *Move) await(m api.Memory) (bool, api.Errno) {
	v, e := m.Load(p.nodes.Wait(p.node()))
	if e != api.OK {
		return false, e
	}
	if v != 0 {
		return true, api.OK
	}
	p.next = ended
	return false, api.OK
}

// readBits reads who holds the latch shared.
func (p *Move) readBits(m api.Memory) api.Errno {
	v, e := m.Load(p.at + bitsWord)
	if e == api.OK {
		p.was[0], p.next = v, loadState
	}
	return e
}

// readState reads the rest of the state, by which it is known what happens.
func (p *Move) readState(m api.Memory) api.Errno {
	v, e := m.Load(p.at + stateWord)
	if e != api.OK {
		return e
	}
	s, e := read(&p.nodes, [2]uint64{p.was[0], v})
	if e != api.OK {
		return e
	}
	p.was[1], p.is = v, s
	p.decide()
	return api.OK
}

// readMode looks for what the first one waits, and gives it that if it goes.
func (p *Move) readMode(m api.Memory) api.Errno {
	mode, e := wanted(m, &p.nodes, p.is.first)
	if e != api.OK {
		return e
	}
	others := p.is.first != p.is.last
	switch {
	case !p.is.goes(mode, others):
		p.finish()
	case others:
		p.front, p.next = mode, loadNext
	default:
		p.serve(mode, nobody)
	}
	return api.OK
}

// readNext looks who is behind the first one, and serves this one.
func (p *Move) readNext(m api.Memory) api.Errno {
	second, e := behind(m, &p.nodes, p.is.first)
	if e == api.OK {
		p.serve(p.front, second)
	}
	return e
}

// store stores a word.
func (p *Move) store(m api.Memory) api.Errno {
	word, v := p.storing()
	e := m.Store(word, v)
	if e == api.OK {
		p.stored()
	}
	return e
}

// storing returns which word the next step stores, and what.
func (p *Move) storing() (word int, v uint64) {
	w := p.is.words(&p.nodes)
	switch p.next {
	case storeMode:
		return p.nodes.Mode(p.node()), uint64(p.mode)
	case clearNext:
		return p.nodes.Next(p.node()), 0
	case setWait:
		return p.nodes.Wait(p.node()), 1
	case linkBehind:
		ref, _ := p.nodes.Ref(p.node()) // begin has looked whether there is such a node
		return p.nodes.Next(p.is.last), ref
	case storeBits:
		return p.at + bitsWord, w[0]
	case storeState:
		return p.at + stateWord, w[1]
	}
	return p.nodes.Wait(p.woken[0]), 0
}

// stored goes on when the word is stored.
func (p *Move) stored() {
	w := p.is.words(&p.nodes)
	switch p.next {
	case storeMode:
		p.next = clearNext
	case clearNext:
		p.next = setWait
	case setWait:
		p.park()
	case linkBehind:
		p.standLast()
	case storeBits:
		p.was[0] = w[0]
		p.finish()
	case storeState:
		p.was[1] = w[1]
		p.finish()
	case wake:
		p.woken = p.woken[1:]
		p.finish()
	}
}

// finish goes on with what is left to be done, in order, when it is known what the words are to say.
func (p *Move) finish() {
	w := p.is.words(&p.nodes)
	switch {
	case p.was[0] != w[0]:
		p.next = storeBits
	case p.was[1] != w[1]:
		p.next = storeState
	case len(p.woken) > 0:
		p.next = wake
	default:
		p.next = giveGuard
	}
}

// node returns the node by which the thread waits.
func (p *Move) node() int {
	q, _ := p.nodes.Of(p.thread, qnode.Latch) // begin has looked whether there is such a thread
	return q
}
