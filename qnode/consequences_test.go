package qnode

import (
	"math"
	"testing"

	"ticketline/api"
)

// places returns nodes at several places, of all numbers of threads.
func places(t *testing.T) []*Nodes {
	t.Helper()
	var l []*Nodes
	for threads := 1; threads <= api.MaxThreads; threads++ {
		for _, base := range []int{0, 1, 999, api.MaxWords - 6*threads} {
			l = append(l, at(t, base, threads))
		}
	}
	return l
}

// all returns the nodes of all threads, by Of.
func all(t *testing.T, n *Nodes) []int {
	t.Helper()
	var l []int
	for thread := range n.Threads() {
		for kind := range ThreadNodes {
			k, e := n.Of(thread, kind)
			if e != api.OK {
				t.Fatal(thread, kind, e)
			}
			l = append(l, k)
		}
	}
	return l
}

// P7.5: no word belongs to two nodes, nor twice to one; all of them, and no others, are from Base on, and before Base plus Len, and before api.MaxWords.
func TestWordsDiffer(t *testing.T) {
	for _, n := range places(t) {
		seen := map[int]bool{}
		for _, k := range all(t, n) {
			for _, w := range []int{n.Next(k), n.Wait(k), n.Mode(k)} {
				if seen[w] || w < n.Base() || w >= n.Base()+n.Len() || w >= api.MaxWords {
					t.Fatal(n.Base(), n.Threads(), k, w)
				}
				seen[w] = true
			}
		}
		if len(seen) != n.Len() || n.Len() != n.Threads()*ThreadNodes*NodeWords {
			t.Error(n.Base(), n.Threads(), len(seen), n.Len())
		}
	}
}

// P7.5: Owner of what Of returns is the thread, and no two have the same node.
func TestOwnerOfOf(t *testing.T) {
	for _, n := range places(t) {
		seen := map[int]bool{}
		for i, k := range all(t, n) {
			if o, e := n.Owner(k); o != i/ThreadNodes || e != api.OK || seen[k] {
				t.Fatal(n.Base(), n.Threads(), i, k, o, e)
			}
			seen[k] = true
		}
	}
}

// P7.5: Node inverts Ref, and Ref inverts Node; no reference is 0, which refers to none.
func TestNodeInvertsRef(t *testing.T) {
	for _, n := range places(t) {
		for _, k := range all(t, n) {
			r, e := n.Ref(k)
			is, f := n.Node(r)
			if r == 0 || is != k || e != api.OK || f != api.OK {
				t.Fatal(n.Base(), n.Threads(), k, r, is, e, f)
			}
		}
		for r := range uint64(1000) {
			k, e := n.Node(r)
			if e != api.OK || k == -1 {
				continue
			}
			if back, e := n.Ref(k); back != r || e != api.OK {
				t.Fatal(n.Base(), n.Threads(), r, k, back, e)
			}
		}
	}
}

// P7.1: two that New has made with equal numbers are the same, any others are not.
func TestSameIsPlace(t *testing.T) {
	l := places(t)
	for i, n := range l {
		for j, o := range l {
			if n.Same(o) != (i == j) || n.Same(o) != (n.Base() == o.Base() && n.Threads() == o.Threads()) {
				t.Error(i, j)
			}
		}
		if !n.Same(at(t, n.Base(), n.Threads())) {
			t.Error(i)
		}
	}
}

// P7.1: no call changes where the nodes are, nor what it returns the next time.
func TestNothingChanges(t *testing.T) {
	n, as := at(t, 40, 5), at(t, 40, 5)
	for k := range 12 {
		for range 2 {
			if n.Next(k) != as.Next(k) || n.Wait(k) != as.Wait(k) || n.Mode(k) != as.Mode(k) {
				t.Error(k)
			}
			n.Of(k, k)
			n.Owner(k)
			n.Ref(k)
			n.Node(uint64(k))
			at(t, 41, 6)
		}
	}
	if !n.Same(as) || n.Base() != 40 || n.Threads() != 5 || n.Len() != 30 {
		t.Error(n.Base(), n.Threads(), n.Len())
	}
}

// P1: no call panics, with any arguments, and each one returns what the chapter says.
func FuzzCalls(f *testing.F) {
	f.Add(0, 1, 0, 0, uint64(0))
	f.Add(100, 3, 5, 1, uint64(6))
	f.Add(65530, 1, 2, 0, uint64(3))
	f.Add(65531, 1, 0, 0, uint64(1))
	f.Add(-1, 64, -1, -1, uint64(math.MaxUint64))
	f.Add(0, 65, 130, 2, uint64(131))
	f.Add(math.MaxInt, math.MaxInt, math.MaxInt, math.MaxInt, uint64(1<<63))
	f.Add(math.MinInt, math.MinInt, math.MinInt, math.MinInt, uint64(1))
	f.Fuzz(func(t *testing.T, base, threads, x, kind int, ref uint64) {
		n, e := New(base, threads)
		made := base >= 0 && base <= 65536 && threads >= 1 && threads <= 64 && base+6*threads <= 65536
		if made != (n != nil) || made != (e == api.OK) || !made && e != api.ErrArg || n.Same(n) != made {
			t.Fatal(base, threads, e)
		}
		there := made && x >= 0 && x < 2*threads
		next, wait, mode := n.Next(x), n.Wait(x), n.Mode(x)
		if there && (next != base+3*x || wait != next+1 || mode != next+2) || !there && (next != -1 || wait != -1 || mode != -1) {
			t.Fatal(base, threads, x, next, wait, mode)
		}
		k, e := n.Of(x, kind)
		if fine := made && x >= 0 && x < threads && (kind == 0 || kind == 1); fine != (e == api.OK) || fine && k != 2*x+kind || !fine && k != 0 {
			t.Fatal(threads, x, kind, k, e)
		}
		if o, e := n.Owner(x); there != (e == api.OK) || there && o != x/2 || !there && o != 0 {
			t.Fatal(threads, x, o, e)
		}
		if r, e := n.Ref(x); there != (e == api.OK) || there && r != uint64(x+1) || !there && r != 0 {
			t.Fatal(threads, x, r, e)
		}
		is, e := n.Node(ref)
		if fine := made && ref <= uint64(2*threads); fine != (e == api.OK) || fine && uint64(is+1) != ref || !fine && is != 0 {
			t.Fatal(threads, ref, is, e)
		}
	})
}
