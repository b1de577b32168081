package mem

import (
	"math"
	"slices"
	"testing"

	"ticketline/api"
)

const most = math.MaxUint64

// filled returns an arena with these words.
func filled(t *testing.T, words ...uint64) *Mem {
	t.Helper()
	m, e := New(len(words))
	if m == nil || e != api.OK {
		t.Fatal(e)
	}
	for w, v := range words {
		if e := m.Store(w, v); e != api.OK {
			t.Fatal(w, e)
		}
	}
	return m
}

// wantWords checks all words of an arena.
func wantWords(t *testing.T, m *Mem, want ...uint64) {
	t.Helper()
	if l, e := m.Words(0, m.Len()); e != api.OK || !slices.Equal(l, want) {
		t.Errorf("words %v, %v; want %v", l, e, want)
	}
}

// nones returns a nil and a zero arena.
func nones() []*Mem { return []*Mem{nil, {}} }

// outside returns numbers that are no words of an arena with so many words.
func outside(words int) []int {
	return []int{-1, words, words + 1, math.MinInt, math.MaxInt, 1 << 32, api.MaxWords}
}

func TestMemoryInterface(t *testing.T) {
	var _ api.Memory = (*Mem)(nil)
	var _ api.Memory = (*Once)(nil)
}

// P1.1: New.
func TestNew(t *testing.T) {
	for _, n := range []int{1, 2, 77, api.MaxWords - 1, api.MaxWords} {
		m, e := New(n)
		if m == nil || e != api.OK || m.Len() != n {
			t.Fatal(n, e)
		}
		l, e := m.Words(0, n)
		if e != api.OK || len(l) != n || slices.Max(l) != 0 {
			t.Error(n, e, "words are not 0")
		}
	}
	for _, n := range []int{0, -1, api.MaxWords + 1, math.MinInt, math.MaxInt} {
		if m, e := New(n); m != nil || e != api.ErrArg {
			t.Error(n, m, e)
		}
	}
	one, _ := New(1)
	two, _ := New(1)
	one.Store(0, 5)
	wantWords(t, two, 0)
}

// P1.1: the rows of the chapter's first example.
func TestExampleWords(t *testing.T) {
	m := filled(t, 0, 0, 0, 0)
	if v, e := m.Load(3); v != 0 || e != api.OK {
		t.Error(v, e)
	}
	if e := m.Store(3, 9); e != api.OK {
		t.Error(e)
	}
	if v, e := m.Load(3); v != 9 || e != api.OK {
		t.Error(v, e)
	}
	if v, e := m.Swap(3, 7); v != 9 || e != api.OK {
		t.Error(v, e)
	}
	if is, e := m.CAS(3, 9, 1); is || e != api.OK {
		t.Error(is, e)
	}
	if is, e := m.CAS(3, 7, 1); !is || e != api.OK {
		t.Error(is, e)
	}
	if l, e := m.Words(2, 4); !slices.Equal(l, []uint64{0, 1}) || e != api.OK {
		t.Error(l, e)
	}
}

// P1.1: a word has all of its 64 bits.
func TestWholeWord(t *testing.T) {
	m := filled(t, 0, 0)
	if e := m.Store(1, most); e != api.OK {
		t.Error(e)
	}
	if is, e := m.CAS(1, most>>1, 3); is || e != api.OK {
		t.Error(is, e)
	}
	if v, e := m.Swap(1, 1<<63); v != most || e != api.OK {
		t.Error(v, e)
	}
	if is, e := m.CAS(1, 0, 3); is || e != api.OK {
		t.Error(is, e)
	}
	if is, e := m.CAS(1, 1<<63, most-1); !is || e != api.OK {
		t.Error(is, e)
	}
	wantWords(t, m, 0, most-1)
}

// P1.1: CAS to the value that is there reports that it was.
func TestCASToTheSame(t *testing.T) {
	m := filled(t, 4)
	if is, e := m.CAS(0, 4, 4); !is || e != api.OK {
		t.Error(is, e)
	}
	if is, e := m.CAS(0, 5, 4); is || e != api.OK {
		t.Error(is, e)
	}
	wantWords(t, m, 4)
}

// P1.1 and P1.2: words that there are not; nothing changes, and the other results are zero.
func TestRange(t *testing.T) {
	m := filled(t, 0, 6, 0)
	for _, w := range outside(3) {
		if v, e := m.Load(w); v != 0 || e != api.ErrRange {
			t.Error("Load", w, v, e)
		}
		if e := m.Store(w, 9); e != api.ErrRange {
			t.Error("Store", w, e)
		}
		if is, e := m.CAS(w, 0, 9); is || e != api.ErrRange {
			t.Error("CAS", w, is, e)
		}
		if v, e := m.Swap(w, 9); v != 0 || e != api.ErrRange {
			t.Error("Swap", w, v, e)
		}
		for kind := api.AccessLoad; kind <= api.AccessSwap; kind++ {
			a := api.Access{Kind: kind, Word: w, After: 9}
			if did, e := m.Do(a); did != (api.Access{}) || e != api.ErrRange {
				t.Error("Do", a, did, e)
			}
		}
	}
	wantWords(t, m, 0, 6, 0)
}

// P1.1, P1.2, P1.3: nil and zero arenas come before all other errors.
func TestNoMem(t *testing.T) {
	m := filled(t, 1)
	for i, none := range nones() {
		for _, w := range append(outside(0), 0) {
			if v, e := none.Load(w); v != 0 || e != api.ErrNil {
				t.Error(i, w, v, e)
			}
			if e := none.Store(w, 1); e != api.ErrNil {
				t.Error(i, w, e)
			}
			if is, e := none.CAS(w, 0, 1); is || e != api.ErrNil {
				t.Error(i, w, is, e)
			}
			if v, e := none.Swap(w, 1); v != 0 || e != api.ErrNil {
				t.Error(i, w, v, e)
			}
			if did, e := none.Do(api.Access{Kind: api.AccessKind(w), Word: w}); did != (api.Access{}) || e != api.ErrNil {
				t.Error(i, w, did, e)
			}
			if l, e := none.Words(w, 0); len(l) != 0 || e != api.ErrNil {
				t.Error(i, w, l, e)
			}
		}
		if none.Len() != 0 || none.Copy() != nil {
			t.Error(i, none.Len(), none.Copy())
		}
		if none.Same(m) || m.Same(none) || none.Same(none) || none.Same(nil) || none.Same(&Mem{}) {
			t.Error(i, "same")
		}
	}
}

// P1.2: Do, step by step; what Before is does not matter but for AccessCAS, nor what After is for AccessLoad.
func TestDo(t *testing.T) {
	m := filled(t, 0, 0, 0, 1)
	for i, c := range []struct{ a, want api.Access }{
		{api.Access{Kind: api.AccessCAS, Word: 3, Before: 5, After: 6}, api.Access{Kind: api.AccessCAS, Word: 3, Before: 1, After: 1}},
		{api.Access{Kind: api.AccessSwap, Word: 0, After: 8}, api.Access{Kind: api.AccessSwap, Word: 0, After: 8}},
		{api.Access{Kind: api.AccessCAS, Word: 3, Before: 1, After: 6}, api.Access{Kind: api.AccessCAS, Word: 3, Before: 1, After: 6}},
		{api.Access{Kind: api.AccessLoad, Word: 3, Before: 7, After: 8}, api.Access{Kind: api.AccessLoad, Word: 3, Before: 6, After: 6}},
		{api.Access{Kind: api.AccessStore, Word: 3, Before: 7, After: most}, api.Access{Kind: api.AccessStore, Word: 3, Before: 6, After: most}},
		{api.Access{Kind: api.AccessSwap, Word: 3, Before: 7, After: 2}, api.Access{Kind: api.AccessSwap, Word: 3, Before: most, After: 2}},
		{api.Access{Kind: api.AccessStore, Word: 1}, api.Access{Kind: api.AccessStore, Word: 1}},
	} {
		if did, e := m.Do(c.a); did != c.want || e != api.OK {
			t.Error(i, did, e)
		}
		if v, e := m.Load(c.want.Word); v != c.want.After || e != api.OK {
			t.Error(i, v, e)
		}
	}
	wantWords(t, m, 8, 0, 0, 2)
}

// P1.2: a wrong kind comes before a wrong word, and changes nothing.
func TestDoKind(t *testing.T) {
	m := filled(t, 3, 4)
	for _, kind := range []api.AccessKind{api.AccessNone, -1, api.AccessSwap + 1, math.MinInt, math.MaxInt} {
		for _, w := range []int{0, 1, 2, -1} {
			a := api.Access{Kind: kind, Word: w, Before: 3, After: 9}
			if did, e := m.Do(a); did != (api.Access{}) || e != api.ErrArg {
				t.Error(a, did, e)
			}
		}
	}
	wantWords(t, m, 3, 4)
}

// P1.3: Words.
func TestSomeWords(t *testing.T) {
	m := filled(t, 1, 2, 3)
	for _, c := range []struct {
		from, to int
		want     []uint64
	}{{0, 3, []uint64{1, 2, 3}}, {1, 2, []uint64{2}}, {1, 3, []uint64{2, 3}}, {0, 0, nil}, {2, 2, nil}, {3, 3, nil}} {
		if l, e := m.Words(c.from, c.to); !slices.Equal(l, c.want) || e != api.OK {
			t.Error(c, l, e)
		}
	}
	for _, c := range [][2]int{{-1, 0}, {-1, -1}, {2, 1}, {3, 2}, {0, 4}, {4, 4}, {math.MinInt, math.MaxInt}, {math.MaxInt, math.MinInt}, {0, math.MaxInt}} {
		if l, e := m.Words(c[0], c[1]); len(l) != 0 || e != api.ErrRange {
			t.Error(c, l, e)
		}
	}
}

// P1.3: what Words returns shares nothing with the arena.
func TestWordsAreACopy(t *testing.T) {
	m := filled(t, 1, 2, 3)
	l, _ := m.Words(0, 2)
	l[0] = 9
	_ = append(l, 9)
	wantWords(t, m, 1, 2, 3)
	m.Store(1, 8)
	if l[1] != 2 {
		t.Error(l)
	}
}

// P1.3: Copy and Same.
func TestCopyAndSame(t *testing.T) {
	m := filled(t, 1, 2, 3)
	c := m.Copy()
	if c == m || c.Len() != 3 || !m.Same(c) || !c.Same(m) || !m.Same(m) {
		t.Error("copy")
	}
	c.Store(0, 9)
	wantWords(t, m, 1, 2, 3)
	m.Store(2, 8)
	wantWords(t, c, 9, 2, 3)
	if m.Same(c) || c.Same(m) {
		t.Error("different")
	}
	if !m.Same(filled(t, 1, 2, 8)) || m.Same(filled(t, 1, 2)) || m.Same(filled(t, 1, 2, 8, 0)) {
		t.Error("same")
	}
}
