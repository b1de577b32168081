package latch

import (
	"math/bits"

	"ticketline/api"
	"ticketline/modes"
	"ticketline/qnode"
)

// nobody is no thread, and no node.
const nobody = -1

// The state has numbers of so many bits, and so many of them.
const (
	numberBits = 8
	numbers    = 6
)

// state is what the second and the third word of a latch say: a bit for each thread that holds it shared, which threads hold U and X, and want X, how many are in the group, and the nodes of the first and the last one who waits.
type state struct {
	shared                   uint64
	update, exclusive, wants int
	group                    int
	first, last              int
}

// allNodes returns the nodes of as many threads as there may be.
func allNodes() *qnode.Nodes {
	n, _ := qnode.New(0, api.MaxThreads) // there is room for them
	return n
}

// read returns what two words say, for the threads that the nodes have, or an error.
func read(n *qnode.Nodes, w [2]uint64) (state, api.Errno) {
	if w[1]>>(numberBits*numbers) != 0 {
		return state{}, api.ErrMalformed
	}
	number := func(i int) int { return int(w[1] >> (numberBits * i) & (1<<numberBits - 1)) }
	first, e := n.Node(uint64(number(3)))
	last, f := n.Node(uint64(number(4)))
	s := state{shared: w[0], update: number(0) - 1, exclusive: number(1) - 1, wants: number(2) - 1, group: number(5), first: first, last: last}
	if e != api.OK || f != api.OK || !s.may(n) {
		return state{}, api.ErrMalformed
	}
	return s, api.OK
}

// words returns the two words that say a state.
func (s *state) words(n *qnode.Nodes) [2]uint64 {
	first, _ := n.Ref(s.first) // 0 for nobody
	last, _ := n.Ref(s.last)
	w := [2]uint64{s.shared, 0}
	for i, v := range [numbers]uint64{uint64(s.update + 1), uint64(s.exclusive + 1), uint64(s.wants + 1), first, last, uint64(s.group)} {
		w[1] |= v << (numberBits * i)
	}
	return w
}

// may reports whether two words can say a state, with the threads that the nodes have.
func (s *state) may(n *qnode.Nodes) bool {
	thread := func(t int) bool { return t >= nobody && t < n.Threads() }
	if s.shared>>n.Threads() != 0 || !thread(s.update) || !thread(s.exclusive) || s.wants != nobody && s.wants != s.update {
		return false
	}
	if s.has(s.update) || !modes.All(s.held()) { // S and U alone go together, so that these are the two that one thread could hold
		return false
	}
	if s.group < 0 || s.group > modes.Batch || s.group > 0 && s.shared == 0 {
		return false
	}
	return s.first == nobody && s.last == nobody || queues(n, s.first) && queues(n, s.last)
}

// queues reports whether a node is one by which a thread waits for a latch.
func queues(n *qnode.Nodes, node int) bool {
	thread, e := n.Owner(node)
	if e != api.OK {
		return false
	}
	k, e := n.Of(thread, qnode.Latch)
	return k == node && e == api.OK
}

// bitsOf returns a bit for each thread of a list, and whether it has each of them once, in increasing order.
func bitsOf(threads []int) (uint64, bool) {
	before, w := nobody, uint64(0)
	for _, t := range threads {
		if t <= before || t >= api.MaxThreads {
			return 0, false
		}
		w |= 1 << t
		before = t
	}
	return w, true
}

// latch returns a state as api says it, but for who waits.
func (s *state) latch() api.Latch {
	l := api.Latch{Update: s.update, Exclusive: s.exclusive, Wants: s.wants, Group: s.group}
	for w := s.shared; w != 0; w &= w - 1 {
		l.Shared = append(l.Shared, bits.TrailingZeros64(w))
	}
	return l
}

// held returns which modes are held; S once, since what goes with one S goes with several.
func (s *state) held() []api.Mode {
	var l []api.Mode
	if s.shared != 0 {
		l = append(l, api.ModeShared)
	}
	if s.update != nobody {
		l = append(l, api.ModeUpdate)
	}
	if s.exclusive != nobody {
		l = append(l, api.ModeExclusive)
	}
	return l
}

// has reports whether a thread holds S.
func (s *state) has(thread int) bool { return thread != nobody && s.shared>>thread&1 != 0 }

// of returns in which mode a thread holds the latch.
func (s *state) of(thread int) api.Mode {
	switch {
	case s.exclusive == thread:
		return api.ModeExclusive
	case s.update == thread:
		return api.ModeUpdate
	case s.has(thread):
		return api.ModeShared
	}
	return api.ModeNone
}

// goes reports whether a mode may be given now.
func (s *state) goes(mode api.Mode, behind bool) bool {
	return modes.Goes(mode, s.held(), s.group, behind)
}

// give gives the latch to a thread in a mode, in place of what it held.
func (s *state) give(thread int, mode api.Mode) {
	s.take(thread)
	switch mode {
	case api.ModeShared:
		s.shared |= 1 << thread
		s.group = min(s.group+1, modes.Batch)
	case api.ModeUpdate:
		s.update = thread
	case api.ModeExclusive:
		s.exclusive = thread
	}
}

// take takes from a thread what it holds; the group ends when nobody holds S.
func (s *state) take(thread int) {
	switch s.of(thread) {
	case api.ModeShared:
		s.shared &^= 1 << thread
	case api.ModeUpdate:
		s.update = nobody
	case api.ModeExclusive:
		s.exclusive = nobody
	}
	if s.shared == 0 {
		s.group = 0
	}
}
