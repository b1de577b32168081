package slot

import (
	"slices"
	"strings"
	"testing"

	"ticketline/api"
)

// times returns a string of so many bytes, all of them the same.
func times(x byte, many int) string { return strings.Repeat(string([]byte{x}), many) }

// words returns the words of some bytes, as the chapter of layer 5 says.
func words(s string) []uint64 {
	l := make([]uint64, (len(s)+7)/8)
	for i := range len(s) {
		l[i/8] += uint64(s[i]) << (8 * (7 - i%8))
	}
	return l
}

// number returns the value whose word is a number.
func number(n uint64) string {
	b := make([]byte, 8)
	for i := range b {
		b[i] = byte(n >> (8 * (7 - i)))
	}
	return string(b)
}

// pair returns a key and a value.
func pair(key, value string) api.Pair { return api.Pair{Key: key, Value: value} }

// made returns what Make returns without an error.
func made(t *testing.T, level int, low, high string) api.Page {
	t.Helper()
	p, e := Make(level, low, high)
	if e != api.OK {
		t.Fatal(level, low, high, e)
	}
	return p
}

// at returns a page with one more slot behind the others, whose record begins with a word.
func at(p api.Page, word int, key, value string) api.Page {
	copy(p[word:], append(words(key), words(value)...))
	p[20+p[9]] = 65536*uint64(word) + 256*uint64(len(key)) + uint64(len(value))
	p[9]++
	return p
}

// with returns a page with more slots behind the others, whose records are below the top, which they lower.
func with(p api.Page, l ...api.Pair) api.Page {
	for _, x := range l {
		p[11] -= uint64(len(words(x.Key)) + len(words(x.Value)))
		p = at(p, int(p[11]), x.Key, x.Value)
	}
	return p
}

// set returns a page with another word.
func set(p api.Page, word int, v uint64) api.Page {
	p[word] = v
	return p
}

// view is what all functions say of a used page.
type view struct {
	level, next, load, gap int
	low, high              string
	pairs                  []api.Pair
	children               []int
}

// wantView checks what all functions say of a used page.
func wantView(t *testing.T, p api.Page, want view) {
	t.Helper()
	if !Valid(p) || Level(p) != want.level || Len(p) != len(want.pairs) || Next(p) != want.next {
		t.Fatal(Valid(p), Level(p), Len(p), Next(p), "want", want)
	}
	low, high, e := Fences(p)
	if low != want.low || high != want.high || e != api.OK {
		t.Fatalf("fences %q %q, error %v; want %q %q", low, high, e, want.low, want.high)
	}
	load, e := Load(p)
	gap, f := Gap(p)
	if load != want.load || gap != want.gap || e != api.OK || f != api.OK {
		t.Fatal("load", load, "gap", gap, e, f, "want", want.load, want.gap)
	}
	if l, e := Pairs(p); !slices.Equal(l, want.pairs) || e != api.OK {
		t.Fatalf("pairs %q, error %v; want %q", l, e, want.pairs)
	}
	for i, x := range want.pairs {
		k, e := Key(p, i)
		v, f := Value(p, i)
		if k != x.Key || v != x.Value || e != api.OK || f != api.OK {
			t.Fatalf("slot %v: %q %q, errors %v %v; want %q", i, k, v, e, f, x)
		}
		wantChild(t, p, i, want)
	}
	for _, i := range []int{-1, len(want.pairs), len(want.pairs) + 1, 128, -1 << 63, 1<<63 - 1} {
		wantNoSlot(t, p, i, api.ErrRange)
	}
}

// wantChild checks the child of a slot, which a leaf has not.
func wantChild(t *testing.T, p api.Page, i int, want view) {
	t.Helper()
	n, e := Child(p, i)
	if want.level == 0 {
		if n != 0 || e != api.ErrState {
			t.Fatal("a leaf's child", i, n, e)
		}
	} else if n != want.children[i] || e != api.OK {
		t.Fatal("child", i, n, e, "want", want.children[i])
	}
}

// wantNoSlot checks that a page has no slot with an index.
func wantNoSlot(t *testing.T, p api.Page, i int, want api.Errno) {
	t.Helper()
	k, e := Key(p, i)
	v, f := Value(p, i)
	n, g := Child(p, i)
	if k != "" || v != "" || n != 0 || e != want || f != want || g != want {
		t.Fatalf("slot %v: %q %q %v, errors %v %v %v; want %v", i, k, v, n, e, f, g, want)
	}
}

// wantMalformed checks what all functions say of words that are not those of a used page.
func wantMalformed(t *testing.T, p api.Page) {
	t.Helper()
	if Valid(p) || Level(p) != -1 || Len(p) != 0 || Next(p) != 0 {
		t.Fatal(Valid(p), Level(p), Len(p), Next(p))
	}
	for _, i := range []int{-1, 0, 1, int(p[9]), 107, 108, 1 << 62} {
		wantNoSlot(t, p, i, api.ErrMalformed)
	}
	low, high, e := Fences(p)
	load, f := Load(p)
	gap, g := Gap(p)
	l, h := Pairs(p)
	if low != "" || high != "" || load != 0 || gap != 0 || len(l) != 0 {
		t.Fatalf("%q %q %v %v %q", low, high, load, gap, l)
	}
	if e != api.ErrMalformed || f != api.ErrMalformed || g != api.ErrMalformed || h != api.ErrMalformed {
		t.Fatal(e, f, g, h)
	}
}
