package qnode

import (
	"math"
	"testing"

	"ticketline/api"
)

// at returns the nodes of so many threads from a word on.
func at(t *testing.T, base, threads int) *Nodes {
	t.Helper()
	n, e := New(base, threads)
	if n == nil || e != api.OK {
		t.Fatal(base, threads, e)
	}
	return n
}

// nones returns nil and zero Nodes.
func nones() []*Nodes { return []*Nodes{nil, {}} }

// far returns numbers that are not among the numbers of threads, kinds or nodes; some of them would be, if they were cut off or went round.
func far() []int {
	return []int{-1, -2, -3, 1 << 16, 1 << 32, 1<<32 + 1, 1 << 62, 1<<62 + 1, math.MaxInt / 3, math.MinInt / 3, math.MaxInt, math.MinInt, math.MinInt + 1}
}

// P7.1, P7.2: the numbers, as they are written.
func TestNumbers(t *testing.T) {
	if NodeWords != 3 || ThreadNodes != 2 || Plain != 0 || Latch != 1 {
		t.Error(NodeWords, ThreadNodes, Plain, Latch)
	}
}

// P7.1: New, Base, Threads and Len, for all numbers of threads, up to the last place at which they end before api.MaxWords.
func TestNew(t *testing.T) {
	for threads := 1; threads <= 64; threads++ {
		last := 65536 - 6*threads
		for _, base := range []int{0, 1, 1000, last - 1, last} {
			n, e := New(base, threads)
			if n == nil || e != api.OK || n.Base() != base || n.Threads() != threads || n.Len() != 6*threads {
				t.Fatal(base, threads, e, n.Base(), n.Threads(), n.Len())
			}
		}
		for _, base := range append(far(), last+1, last+6, 65535) {
			if n, e := New(base, threads); n != nil || e != api.ErrArg {
				t.Error(base, threads, e)
			}
		}
	}
}

// P7.1: New, of numbers of threads that are not allowed, also where they would make the words too many for an int.
func TestNewThreads(t *testing.T) {
	for _, threads := range append(far(), 0, 65, math.MaxInt/6, math.MaxInt/6+1, 1<<61+1) {
		for _, base := range []int{0, 100, 65530, -1, math.MaxInt, math.MinInt} {
			if n, e := New(base, threads); n != nil || e != api.ErrArg {
				t.Error(base, threads, e)
			}
		}
	}
}

// P7.1: the last row of the chapter's example.
func TestExampleNew(t *testing.T) {
	if n := at(t, 65530, 1); n.Base() != 65530 || n.Threads() != 1 || n.Len() != 6 {
		t.Error(n.Base(), n.Threads(), n.Len())
	}
	for _, c := range [][2]int{{65531, 1}, {-1, 1}, {0, 65}, {0, 0}} {
		if n, e := New(c[0], c[1]); n != nil || e != api.ErrArg {
			t.Error(c, e)
		}
	}
}

// P7.1: Same.
func TestSame(t *testing.T) {
	n := at(t, 5, 2)
	if !n.Same(n) || !n.Same(at(t, 5, 2)) || !at(t, 5, 2).Same(n) || !at(t, 0, 1).Same(at(t, 0, 1)) {
		t.Error("equal ones are not the same")
	}
	for _, c := range [][2]int{{6, 2}, {4, 2}, {5, 3}, {5, 1}, {2, 5}, {11, 1}, {0, 2}} {
		if o := at(t, c[0], c[1]); n.Same(o) || o.Same(n) {
			t.Error(c)
		}
	}
	for i, none := range nones() {
		if n.Same(none) || none.Same(n) || none.Same(none) || none.Same(nil) || none.Same(&Nodes{}) || none.Same(at(t, 0, 1)) || at(t, 0, 1).Same(none) {
			t.Error(i)
		}
	}
}

// P7.2, P7.4: the rows of the chapter's example about nodes.
func TestExampleNodes(t *testing.T) {
	n := at(t, 100, 3)
	if n.Len() != 18 {
		t.Error(n.Len())
	}
	for i, c := range []struct {
		call    func(int, int) (int, api.Errno)
		a, b, k int
		e       api.Errno
	}{
		{n.Of, 0, Plain, 0, api.OK},
		{n.Of, 2, Latch, 5, api.OK},
		{owner(n), 4, 0, 2, api.OK},
		{owner(n), 6, 0, 0, api.ErrNone},
		{n.Of, 3, Plain, 0, api.ErrArg},
		{n.Of, 0, 2, 0, api.ErrArg},
		{ref(n), 0, 0, 1, api.OK},
		{ref(n), 5, 0, 6, api.OK},
		{ref(n), 6, 0, 0, api.ErrNone},
		{node(n), 0, 0, -1, api.OK},
		{node(n), 6, 0, 5, api.OK},
		{node(n), 7, 0, 0, api.ErrMalformed},
	} {
		if k, e := c.call(c.a, c.b); k != c.k || e != c.e {
			t.Error(i, k, e)
		}
	}
}

// owner, ref and node return the methods in the form of Of, whose second number they do not need.
func owner(n *Nodes) func(int, int) (int, api.Errno) {
	return func(k, _ int) (int, api.Errno) { return n.Owner(k) }
}

func ref(n *Nodes) func(int, int) (int, api.Errno) {
	return func(k, _ int) (int, api.Errno) {
		r, e := n.Ref(k)
		return int(r), e
	}
}

func node(n *Nodes) func(int, int) (int, api.Errno) {
	return func(r, _ int) (int, api.Errno) { return n.Node(uint64(r)) }
}

// P7.3: the row of the chapter's example about words.
func TestExampleWords(t *testing.T) {
	n := at(t, 100, 3)
	for i, c := range []struct {
		call    func(int) int
		k, want int
	}{{n.Next, 0, 100}, {n.Wait, 0, 101}, {n.Mode, 0, 102}, {n.Next, 5, 115}, {n.Mode, 5, 117}, {n.Next, 6, -1}, {n.Next, -1, -1}} {
		if w := c.call(c.k); w != c.want {
			t.Error(i, w)
		}
	}
}

// P7.2: Of and Owner, of all threads, for all numbers of them.
func TestOf(t *testing.T) {
	for threads := 1; threads <= 64; threads++ {
		n := at(t, 3, threads)
		for thread := range threads {
			plain, e := n.Of(thread, Plain)
			latch, f := n.Of(thread, Latch)
			if plain != 2*thread || latch != 2*thread+1 || e != api.OK || f != api.OK {
				t.Fatal(threads, thread, plain, latch, e, f)
			}
			one, e := n.Owner(plain)
			other, f := n.Owner(latch)
			if one != thread || other != thread || e != api.OK || f != api.OK {
				t.Fatal(threads, thread, one, other, e, f)
			}
		}
		for _, k := range append(far(), 2*threads, 2*threads+1) {
			if o, e := n.Owner(k); o != 0 || e != api.ErrNone {
				t.Error(threads, k, o, e)
			}
		}
	}
}

// P7.2: Of, of threads and kinds that there are not.
func TestOfWrong(t *testing.T) {
	n := at(t, 0, 7)
	for _, x := range append(far(), 7, 8, 14, 64) {
		for _, kind := range []int{Plain, Latch, 2, -1} {
			if k, e := n.Of(x, kind); k != 0 || e != api.ErrArg {
				t.Error(x, kind, k, e)
			}
		}
	}
	for _, x := range append(far(), 2, 3) {
		for _, thread := range []int{0, 1, 6, 7, -1} {
			if k, e := n.Of(thread, x); k != 0 || e != api.ErrArg {
				t.Error(thread, x, k, e)
			}
		}
	}
}

// P7.3: Next, Wait and Mode, of all nodes, and of none.
func TestWords(t *testing.T) {
	for _, base := range []int{0, 1, 100, 65536 - 384} {
		for _, threads := range []int{1, 2, 63, 64} {
			n := at(t, base, threads)
			for k := range 2 * threads {
				if n.Next(k) != base+3*k || n.Wait(k) != base+3*k+1 || n.Mode(k) != base+3*k+2 {
					t.Error(base, threads, k, n.Next(k), n.Wait(k), n.Mode(k))
				}
			}
			for _, k := range append(far(), 2*threads, 2*threads+1) {
				if n.Next(k) != -1 || n.Wait(k) != -1 || n.Mode(k) != -1 {
					t.Error(base, threads, k, n.Next(k), n.Wait(k), n.Mode(k))
				}
			}
		}
	}
}

// P7.4: Ref and Node, of all nodes, and of none; what they return does not depend on the base.
func TestRef(t *testing.T) {
	for threads := 1; threads <= 64; threads++ {
		n := at(t, threads*7, threads)
		if k, e := n.Node(0); k != -1 || e != api.OK {
			t.Error(threads, k, e)
		}
		for k := range 2 * threads {
			if r, e := n.Ref(k); r != uint64(k)+1 || e != api.OK {
				t.Error(threads, k, r, e)
			}
			if is, e := n.Node(uint64(k) + 1); is != k || e != api.OK {
				t.Error(threads, k, is, e)
			}
		}
		for _, k := range append(far(), 2*threads, 2*threads+1) {
			if r, e := n.Ref(k); r != 0 || e != api.ErrNone {
				t.Error(threads, k, r, e)
			}
		}
		many := uint64(2 * threads)
		for _, r := range []uint64{many + 1, many + 2, 1<<32 + 1, 1<<63 - 1, 1 << 63, 1<<63 + 1, math.MaxUint64 - 1, math.MaxUint64} {
			if k, e := n.Node(r); k != 0 || e != api.ErrMalformed {
				t.Error(threads, r, k, e)
			}
		}
	}
}

// P7.1 to P7.4: nil and zero Nodes come before all other errors.
func TestNoNodes(t *testing.T) {
	for i, none := range nones() {
		if none.Base() != 0 || none.Threads() != 0 || none.Len() != 0 {
			t.Error(i, none.Base(), none.Threads(), none.Len())
		}
		for _, k := range append(far(), 0, 1, 2) {
			if none.Next(k) != -1 || none.Wait(k) != -1 || none.Mode(k) != -1 {
				t.Error(i, k, none.Next(k), none.Wait(k), none.Mode(k))
			}
			if is, e := none.Of(k, k); is != 0 || e != api.ErrNil {
				t.Error(i, k, is, e)
			}
			if o, e := none.Owner(k); o != 0 || e != api.ErrNil {
				t.Error(i, k, o, e)
			}
			if r, e := none.Ref(k); r != 0 || e != api.ErrNil {
				t.Error(i, k, r, e)
			}
			if is, e := none.Node(uint64(k)); is != 0 || e != api.ErrNil {
				t.Error(i, k, is, e)
			}
		}
	}
}
