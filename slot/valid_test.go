package slot

import (
	"math"
	"slices"
	"testing"

	"ticketline/api"
)

// far are numbers that no word of a head may be, also if a part of them is looked at, or something is added to them.
var far = []uint64{513, 1 << 16, 1<<32 + 1, 1 << 63, 1<<63 + 1, math.MaxUint64 - 19, math.MaxUint64}

// two returns a leaf with two slots.
func two(t *testing.T) api.Page {
	t.Helper()
	return with(made(t, 0, "abc", "x"), pair("d", "1"), pair("e", "22"))
}

// inner returns a page of level 2 with two slots, of which the first one has no key.
func inner(t *testing.T) api.Page {
	t.Helper()
	return with(made(t, 2, "", "x"), pair("", number(3)), pair("e", number(4)))
}

// P14.1: the kind is 1 plus a level; whether a page is a leaf or not is up to its slots, too.
func TestKinds(t *testing.T) {
	for kind := range uint64(300) {
		p, leaf, other := set(made(t, 0, "", ""), 8, kind), set(two(t), 8, kind), set(inner(t), 8, kind)
		if kind < 1 || kind > 6 {
			wantMalformed(t, p)
		} else {
			wantView(t, p, view{level: int(kind) - 1, gap: 108})
		}
		if Valid(leaf) != (kind == 1) || Valid(other) != (kind >= 2 && kind <= 6) {
			t.Error(kind, Valid(leaf), Valid(other))
		}
	}
	for _, x := range far {
		wantMalformed(t, set(made(t, 0, "", ""), 8, x))
		wantMalformed(t, set(two(t), 8, x))
	}
}

// P14.1: right links from 0 to 511.
func TestRights(t *testing.T) {
	for x := range uint64(512) {
		wantView(t, set(made(t, 4, "a", "b"), 10, x), view{level: 4, next: int(x), gap: 108, low: "a", high: "b"})
		if n := Next(set(two(t), 10, x)); n != int(x) {
			t.Error(x, n)
		}
	}
	for _, x := range append(far, 512) {
		wantMalformed(t, set(made(t, 4, "a", "b"), 10, x))
		wantMalformed(t, set(two(t), 10, x))
	}
}

// P14.1: tops from behind the directory to the end of the page, and counts up to the top.
func TestTops(t *testing.T) {
	for top := range uint64(140) {
		if p := set(made(t, 0, "", ""), 11, top); Valid(p) != (top >= 20 && top <= 128) {
			t.Error(top)
		}
		if p := set(two(t), 11, top); Valid(p) != (top >= 22 && top <= 124) {
			t.Error(top)
		}
		if p := set(inner(t), 11, top); Valid(p) != (top >= 22 && top <= 125) {
			t.Error(top)
		}
		for count := uint64(1); count < 140; count++ {
			if p := set(set(made(t, 0, "", ""), 11, top), 9, count); Valid(p) {
				t.Error(top, count)
			}
		}
	}
	for _, x := range far {
		wantMalformed(t, set(made(t, 0, "", ""), 11, x))
		wantMalformed(t, set(made(t, 0, "", ""), 9, x))
		wantMalformed(t, set(set(made(t, 0, "", ""), 9, x), 11, x))
		wantMalformed(t, set(two(t), 9, x))
	}
	for count := range uint64(140) {
		if p := set(two(t), 9, count); Valid(p) != (count <= 2) || count <= 2 && Len(p) != int(count) {
			t.Error(count)
		}
	}
}

// P14.1: a directory that reaches up to the records, and one that reaches into them.
func TestDirectoryAndTop(t *testing.T) {
	p := made(t, 0, "", "")
	for i := range 54 {
		p = at(p, 74+i, "k", "")
	}
	wantMalformed(t, set(p, 11, 73))
	wantMalformed(t, set(p, 11, 75))
	p[11] = 74
	if n, e := Gap(p); n != 0 || e != api.OK || Len(p) != 54 {
		t.Error(n, e, Len(p))
	}
	p = at(p, 20, "k", "")
	wantMalformed(t, p)
	wantMalformed(t, set(p, 11, 20))
}

// P14.1: of a fence with any number of bytes, each byte may be any, and what is behind them is 0.
func TestFenceWords(t *testing.T) {
	for _, from := range []int{12, 16} {
		for n := range uint64(30) {
			p := set(made(t, 1, "", ""), from, n)
			if Valid(p) != (n <= 24) {
				t.Error(from, n)
			}
			for byteAt := range uint64(24) {
				q := set(p, from+1+int(byteAt/8), 255<<(8*(7-byteAt%8)))
				if Valid(q) != (byteAt < n && n <= 24) {
					t.Error(from, n, byteAt)
				}
			}
			for bit := range uint64(192) {
				q := set(p, from+1+int(bit/64), 1<<(63-bit%64))
				if Valid(q) != (bit < 8*n && n <= 24) {
					t.Error(from, n, bit)
				}
			}
		}
		for _, x := range append(far, 25, 32, 255, 256, 1<<61, 1<<61+1) {
			wantMalformed(t, set(made(t, 1, "", ""), from, x))
			wantMalformed(t, set(two(t), from, x))
		}
	}
}

// P14.1: a used page needs no order of its fences; only Make asks for it.
func TestFencesInAnyOrder(t *testing.T) {
	p := made(t, 1, "", "")
	for _, x := range [][2]string{{"b", "a"}, {"a", "a"}, {times(255, 24), "\x00"}} {
		p[12], p[16] = uint64(len(x[0])), uint64(len(x[1]))
		clear(p[13:16])
		clear(p[17:20])
		copy(p[13:], words(x[0]))
		copy(p[17:], words(x[1]))
		wantView(t, p, view{level: 1, gap: 108, low: x[0], high: x[1]})
	}
}

// P14.1: records at each word, which must be between the top and the end of the page.
func TestRecordPlaces(t *testing.T) {
	for word := range 140 {
		for many := 1; many <= 8; many++ {
			k, v := times('k', 8*min(many, 3)), times('v', 8*max(0, many-3))
			p := made(t, 0, "", "")
			p[9], p[20] = 1, 65536*uint64(word)+256*uint64(len(k))+uint64(len(v))
			for _, top := range []int{21, 60, 119, 120, 121, 127, 128} {
				p[11] = uint64(top)
				is := word >= top && word+many <= 128
				if Valid(p) != is {
					t.Error(word, many, top)
				}
				if n, e := Load(p); is && (n != 1+many || e != api.OK) {
					t.Error(word, many, top, n, e)
				}
			}
		}
	}
}

// P14.1: words of a directory that no slot can have.
func TestDirectoryWords(t *testing.T) {
	for _, level := range []int{0, 1} {
		for _, start := range []uint64{0, 1, 19, 20, 21, 127, 128, 129, 255, 256, 1 << 16, 1<<32 + 127, 1 << 40, 1<<48 - 1, 1<<47 + 127} {
			for _, key := range []uint64{0, 1, 8, 24, 25, 127, 128, 255} {
				for _, value := range []uint64{0, 1, 8, 40, 41, 64, 128, 255} {
					p := set(set(made(t, level, "", ""), 9, 1), 20, 65536*start+256*key+value)
					wantMalformed(t, p)
				}
			}
		}
		for _, x := range far {
			wantMalformed(t, set(set(made(t, level, "", ""), 9, 1), 20, x))
			wantMalformed(t, set(set(set(made(t, level, "", ""), 9, 1), 11, 21), 20, x))
		}
	}
}

// P14.1: how many bytes keys and values may have in a leaf, in a page in which there is room for any.
func TestLeafLengths(t *testing.T) {
	for key := range uint64(256) {
		for value := range uint64(256) {
			p := set(set(made(t, 0, "", ""), 9, 1), 11, 21)
			p[20] = 65536*64 + 256*key + value
			if Valid(p) != (key >= 1 && key <= 24 && value <= 40) {
				t.Fatal(key, value)
			}
		}
	}
}

// P14.1: how many bytes they may have in a page that is no leaf, and which of its slots needs no key.
func TestInnerLengths(t *testing.T) {
	for key := range uint64(256) {
		for value := range uint64(256) {
			p := set(made(t, 1, "", ""), 11, 22)
			for word := 40; word < 128; word++ {
				p[word] = 'k' // for a key, whose last word ends with it, a number of bytes is wrong that needs fewer
			}
			p[9], p[20] = 1, 65536*64+256*key+value
			want := key <= 24 && key%8 == 0 && value == 8
			if Valid(p) != want {
				t.Fatal(key, value)
			}
			p[9], p[21] = 2, 65536*40+256*key+8
			if Valid(p) != (want && key > 0) {
				t.Fatal(key, value)
			}
			p[20], p[21] = 65536*40+8, p[20]
			if Valid(p) != (want && key > 0) {
				t.Fatal(key, value)
			}
		}
	}
}

// P14.1: a record without words, and one whose value has none, at the end of the page.
func TestEndOfPage(t *testing.T) {
	for level := range 6 {
		p := set(set(made(t, level, "", ""), 9, 1), 11, 127)
		for _, x := range []uint64{65536 * 128, 65536*128 + 8, 65536*128 + 256, 65536 * 127, 65536*127 + 256 + 8, 65536*127 + 9} {
			wantMalformed(t, set(p, 20, x))
			wantMalformed(t, set(set(p, 20, x), 11, 128))
		}
		if q := set(p, 20, 65536*127+256); Valid(q) != (level == 0) {
			t.Error(level)
		}
		if q := set(set(p, 20, 65536*127+8), 127, 511); Valid(q) != (level > 0) {
			t.Error(level)
		}
	}
}

// P14.1: what is behind the bytes of a key and of a value of any length is 0, and the bytes may be any.
func TestRecordWords(t *testing.T) {
	for key := 1; key <= 24; key++ {
		for _, value := range []int{0, 1, 7, 8, 9, 23, 24, 25, 39, 40} {
			p := with(made(t, 0, "", ""), pair(times(0, key), times(0, value)))
			start, middle := int(p[11]), int(p[11])+(key+7)/8
			for bit := range 64 * (128 - start) {
				q := set(p, start+bit/64, 1<<(63-bit%64))
				want := bit < 8*key || bit >= 64*(middle-start) && bit < 64*(middle-start)+8*value
				if Valid(q) != want {
					t.Fatal(key, value, bit)
				}
			}
		}
	}
	for key := range 25 {
		p := with(made(t, 3, "", ""), pair(times(0, key), number(511)))
		for bit := range 64 * (127 - int(p[11])) {
			if q := set(p, int(p[11])+bit/64, 1<<(63-bit%64)); Valid(q) != (bit < 8*key) {
				t.Fatal(key, bit)
			}
		}
	}
}

// P14.1, P14.2: the children that there may be, in each slot.
func TestChildren(t *testing.T) {
	p := inner(t)
	first, second := p[20]>>16, p[21]>>16+1
	for n := range uint64(600) {
		q, r := set(p, int(first), n), set(p, int(second), n)
		if n < 1 || n > 511 {
			wantMalformed(t, q)
			wantMalformed(t, r)
			continue
		}
		l := []api.Pair{pair("", number(n)), pair("e", number(4))}
		wantView(t, q, view{level: 2, high: "x", load: 5, gap: 103, pairs: l, children: []int{int(n), 4}})
		l = []api.Pair{pair("", number(3)), pair("e", number(n))}
		wantView(t, r, view{level: 2, high: "x", load: 5, gap: 103, pairs: l, children: []int{3, int(n)}})
	}
	for _, n := range append(far, 1<<32, 1<<56, 1<<56+1) {
		wantMalformed(t, set(p, int(first), n))
		wantMalformed(t, set(p, int(second), n))
	}
}

// P14.1: two records, one at each distance of the other one, in both orders of their slots.
func TestOverlap(t *testing.T) {
	for word := 50; word <= 120; word++ {
		for _, x := range []struct{ key, value, words int }{{1, 0, 1}, {24, 0, 3}, {8, 1, 2}, {24, 40, 8}} {
			k, v := times(0, x.key), times(0, x.value)
			p := set(at(at(made(t, 0, "", ""), 80, times(0, 9), times(0, 17)), word, k, v), 11, 50)
			want := word+x.words <= 80 || word >= 85
			if Valid(p) != want {
				t.Error(word, x)
			}
			p[20], p[21] = p[21], p[20]
			if Valid(p) != want {
				t.Error(word, x)
			}
			if q := at(p, 40, "k", ""); Valid(set(q, 11, 40)) != want || Valid(q) {
				t.Error(word, x)
			}
		}
	}
	for i := range 54 { // a slot whose record is that of another one
		p := with(made(t, 0, "", ""), slices.Repeat([]api.Pair{pair("k", "")}, 54)...)
		for j := range 54 {
			if q := set(p, 20+i, p[20+j]); Valid(q) != (i == j) {
				t.Error(i, j)
			}
		}
	}
}
