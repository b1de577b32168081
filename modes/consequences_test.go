package modes

import (
	"math"
	"slices"
	"strings"
	"testing"

	"ticketline/api"
)

// P6.4: Fits does not depend on the order.
func TestFitsBothWays(t *testing.T) {
	l := append(of("SUX"), noModes()...)
	for _, a := range l {
		for _, b := range l {
			if Fits(a, b) != Fits(b, a) {
				t.Error(a, b)
			}
		}
	}
}

// P6.4: nor does All, nor what goes, depend on the order of what is held.
func TestAnyOrder(t *testing.T) {
	for _, s := range lists(letters, 4) {
		l := of(s)
		back := slices.Clone(l)
		slices.Reverse(back)
		if All(l) != All(back) {
			t.Error(s)
		}
		for _, m := range of(letters) {
			if Goes(m, l, 3, true) != Goes(m, back, 3, true) || Goes(m, l, 4, false) != Goes(m, back, 4, false) {
				t.Error(s, m)
			}
		}
	}
}

// P6.4: if what is held goes together, what is held and what Grants gives go together, too; and the next one may not be given.
func TestGrantedFit(t *testing.T) {
	for _, h := range lists("SUX", 4) {
		held := of(h)
		if !All(held) {
			continue
		}
		for _, q := range lists("SUX-", 5) {
			queue := of(q)
			for _, group := range groups() {
				n := Grants(held, queue, group)
				if !All(slices.Concat(held, queue[:n])) {
					t.Fatal(h, q, group, n)
				}
			}
		}
	}
}

// P6.4: if nothing is held, and the group is 0, at least one of a queue of valid modes may be given.
func TestSomebodyGoes(t *testing.T) {
	for _, q := range lists("SUX", 8)[1:] {
		if n := Grants(nil, of(q), 0); n < 1 || n > len(q) {
			t.Error(q, n)
		}
	}
	for n := 1; n < 100; n++ {
		for _, c := range "SUX" {
			if Grants(nil, of(strings.Repeat(string(c), n)), 0) < 1 {
				t.Error(string(c), n)
			}
		}
	}
}

// P6.4: if nothing is held, and the group is 0, at most Batch are given S at once, while somebody waits behind them.
func TestBatch(t *testing.T) {
	for _, q := range lists("SUX", 8) {
		queue := of(q)
		n := Grants(nil, queue, 0)
		front := queue[:n]
		if n == len(queue) && n > 0 {
			front = queue[:n-1] // nobody waits behind the last one
		}
		if many := strings.Count(q[:len(front)], "S"); many > 4 {
			t.Error(q, n, many)
		}
	}
	for n := range 100 {
		want := n
		if n > 5 {
			want = 4 // of five, nobody waits behind the fifth
		}
		if is := Grants(nil, of(strings.Repeat("S", n)), 0); is != want {
			t.Error(n, is)
		}
		if is := Grants(nil, of(strings.Repeat("S", n)+"X"), 0); is != min(n, 4) && n > 0 {
			t.Error(n, is)
		}
	}
}

// P6.2: what Grants gives at once may be given one by one, with what is held then, and its group.
func TestOneByOne(t *testing.T) {
	for _, q := range lists("SUX", 6) {
		for first := range 5 {
			held, group, queue := of(""), first, of(q)
			n := Grants(held, queue, group)
			for i, m := range queue {
				if Goes(m, held, group, i+1 < len(queue)) != (i < n) {
					t.Error(q, first, n, i)
				}
				if i == n {
					break
				}
				held = append(held, m)
				if m == api.ModeShared && group < Batch {
					group++
				}
			}
		}
	}
}

// P6.3: Word and ByWord are inverse, and the words differ.
func TestWordsBack(t *testing.T) {
	seen := map[string]bool{}
	for _, m := range append(of("SUX"), noModes()...) {
		s, e := Word(m)
		if (e == api.OK) != Valid(m) || seen[s] && e == api.OK {
			t.Error(m, s, e)
		}
		seen[s] = true
		if back, e := ByWord(s); Valid(m) && (back != m || e != api.OK) {
			t.Error(m, s, back, e)
		}
	}
}

// P6.1, P6.2: lists that are given are neither changed nor kept, also behind their ends.
func TestListsAreKept(t *testing.T) {
	room := of("SSUXUX")
	held, queue := room[:1], of("SUSXUX")
	for range 2 {
		if n := Grants(held, queue[:3], 2); n != 3 {
			t.Error(n)
		}
		if !Goes(api.ModeUpdate, held, 2, true) || !All(held) || All(queue) {
			t.Error(held, queue)
		}
	}
	if !slices.Equal(room, of("SSUXUX")) || !slices.Equal(queue, of("SUSXUX")) {
		t.Error(room, queue)
	}
	queue[0] = api.ModeExclusive
	if n := Grants(held, queue, 0); n != 0 {
		t.Error(n)
	}
}

// P1: lists of many modes, of which all are given, are gone through in time.
func TestLong(t *testing.T) {
	held := slices.Repeat(of("S"), 1<<20)
	queue := slices.Concat(held, of("UX"))
	if !All(held) || All(queue) || !All(queue[:len(queue)-1]) {
		t.Error("All")
	}
	if n := Grants(held, queue, math.MinInt); n != len(queue)-1 {
		t.Error(n)
	}
	if n := Grants(held, queue, 0); n != 4 {
		t.Error(n)
	}
	if !Goes(api.ModeUpdate, held, 4, true) || Goes(api.ModeExclusive, held, 4, false) {
		t.Error("Goes")
	}
}

// fuzzModes returns modes from bytes, most of them of the three.
func fuzzModes(b []byte) []api.Mode {
	var l []api.Mode
	for _, x := range b {
		m := api.Mode(x % 5)
		if x >= 250 {
			m = noModes()[int(x-250)+6]
		}
		l = append(l, m)
	}
	return l
}

// P1: no call panics, with any arguments, and each one returns what the chapter says.
func FuzzCalls(f *testing.F) {
	f.Add([]byte{}, []byte{}, "", 0, 0, false)
	f.Add([]byte{1, 2}, []byte{1, 1, 1, 1, 2, 1}, "shared", 2, 1, true)
	f.Add([]byte{0, 4, 250, 255}, []byte{3, 251, 1}, "X", math.MaxInt, 3, true)
	f.Add([]byte{1, 1, 1}, []byte{1, 1, 1, 3}, "exclusive", math.MinInt, -1, false)
	f.Fuzz(func(t *testing.T, h, q []byte, s string, group, mode int, behind bool) {
		held, queue, m := fuzzModes(h), fuzzModes(q), api.Mode(mode)
		if is := All(held); is != fitAll(held) {
			t.Fatal(held, is)
		}
		if is := Goes(m, held, group, behind); is != mayGo(m, held, group, behind) {
			t.Fatal(m, held, group, behind, is)
		}
		if n := Grants(held, queue, group); n != given(held, queue, group) {
			t.Fatal(held, queue, group, n)
		}
		if w, e := Word(m); (e == api.OK) != Valid(m) || (e == api.ErrArg) != (w == "") {
			t.Fatal(m, w, e)
		}
		is, e := ByWord(s)
		if w, _ := Word(is); e == api.OK && w != s || e != api.OK && (e != api.ErrFormat || is != api.ModeNone) {
			t.Fatalf("%q %v %v", s, is, e)
		}
	})
}
