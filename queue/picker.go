package queue

import (
	"slices"

	"ticketline/api"
)

// Picker makes picks fair. Whoever is picked goes to the end, so that the threads stay in the order of ages: those that were never picked have the same age, and are still in increasing order.
type Picker struct {
	size, picks int
	order       []turn
}

// turn is a thread, and which of the picks was its last one; never is that none was.
type turn struct{ thread, at int }

// never is before the pick 0, so that the age of whoever was never picked is that from the beginning.
const never = -1

// New returns a picker of so many threads with windows of a size, or an error.
func New(threads, size int) (*Picker, api.Errno) {
	if !mayBe(threads) || size < threads || size > MaxPicks {
		return nil, api.ErrArg
	}
	p := &Picker{size: size, order: make([]turn, threads)}
	for t := range p.order {
		p.order[t] = turn{thread: t, at: never}
	}
	return p, api.OK
}

// Next makes the pick in the place of a wanted one, and returns it, or an error.
func (p *Picker) Next(want int) (int, api.Errno) {
	if p.none() {
		return 0, api.ErrNil
	}
	i := p.index(want)
	if i < 0 {
		return 0, api.ErrArg
	}
	if p.urgent() {
		i = 0
	}
	return p.pick(i), api.OK
}

// urgent reports whether a pick is urgent: even if the first one in order is picked from now on, somebody's age will reach the last one that the windows allow.
func (p *Picker) urgent() bool {
	for i, t := range p.order {
		if p.age(t)+i >= p.size-1 {
			return true
		}
	}
	return false
}

// pick picks the thread at an index of the order, and returns it.
func (p *Picker) pick(i int) int {
	t := p.order[i].thread
	p.order = append(slices.Delete(p.order, i, i+1), turn{thread: t, at: p.picks})
	p.picks++
	return t
}

// Picks returns how many picks were made.
func (p *Picker) Picks() int {
	if p.none() {
		return 0
	}
	return p.picks
}

// Age returns how many picks were made since a thread was picked, or since the beginning.
func (p *Picker) Age(t int) int {
	if p.none() {
		return 0
	}
	i := p.index(t)
	if i < 0 {
		return 0
	}
	return p.age(p.order[i])
}

// Copy returns an independent copy.
func (p *Picker) Copy() *Picker {
	if p.none() {
		return nil
	}
	return &Picker{size: p.size, picks: p.picks, order: slices.Clone(p.order)}
}

// age returns the age of a thread.
func (p *Picker) age(t turn) int { return p.picks - 1 - t.at }

// index returns where a thread is in the order of ages, -1 if it is none.
func (p *Picker) index(t int) int {
	return slices.IndexFunc(p.order, func(o turn) bool { return o.thread == t })
}

// none reports whether a picker is nil or zero: New makes none without threads.
func (p *Picker) none() bool { return p == nil || len(p.order) == 0 }
