package slot

import (
	"math"
	"slices"
	"testing"

	"ticketline/api"
)

// P14.1: the constants, as the chapter writes them.
func TestConstants(t *testing.T) {
	if !slices.Equal([]int{Kind, Count, Right, Top, Low, High, First, Room}, []int{8, 9, 10, 11, 12, 16, 20, 108}) {
		t.Error(Kind, Count, Right, Top, Low, High, First, Room)
	}
	if api.PageWords != 128 || api.MaxHeight != 6 || api.MaxKey != 24 || api.MaxValue != 40 {
		t.Error(api.PageWords, api.MaxHeight, api.MaxKey, api.MaxValue)
	}
}

// P14.1, P14.3: the empty page of the chapter's examples.
func TestEmptyExample(t *testing.T) {
	p := made(t, 0, "b", "m")
	if p[8] != 1 || p[9] != 0 || p[11] != 128 || p[12] != 1 || p[16] != 1 {
		t.Error(p)
	}
	wantView(t, p, view{gap: 108, low: "b", high: "m"})
}

// P14.2, P14.3: the page with one slot of the chapter's examples.
func TestSlotExample(t *testing.T) {
	p := with(made(t, 0, "b", "m"), pair("cat", "123456789"))
	if p[9] != 1 || p[11] != 125 || p[20] != 125*65536+3*256+9 || p[125] != 'c'<<56+'a'<<48+'t'<<40 || p[127] != '9'<<56 {
		t.Fatal(p)
	}
	wantView(t, p, view{load: 4, gap: 104, low: "b", high: "m", pairs: []api.Pair{pair("cat", "123456789")}})
	if _, e := Child(p, 0); e != api.ErrState {
		t.Error(e)
	}
	if _, e := Key(p, 1); e != api.ErrRange {
		t.Error(e)
	}
	if Cost("cat", "123456789") != 4 || Cost("", "") != 1 {
		t.Error(Cost("cat", "123456789"), Cost("", ""))
	}
	wantMalformed(t, set(p, 11, 126))
	wantMalformed(t, set(p, 8, 0))
	wantMalformed(t, set(p, 8, 255))
}

// P14.1: all words of what Make returns, for all levels, and fences of all lengths.
func TestMake(t *testing.T) {
	for level := range 6 {
		for low := range 25 {
			for high := range 25 {
				a, b := times('a', low), times('b', high)
				p, e := Make(level, a, b)
				var want api.Page
				want[8], want[11] = uint64(level)+1, 128
				want[12], want[16] = uint64(low), uint64(high)
				copy(want[13:16], words(a))
				copy(want[17:20], words(b))
				if p != want || e != api.OK {
					t.Fatal(level, low, high, p, e)
				}
				wantView(t, p, view{level: level, gap: 108, low: a, high: b})
			}
		}
	}
}

// P14.1: fences with any bytes, whose order is that of layer 5.
func TestMakeFences(t *testing.T) {
	for _, x := range []struct {
		low, high string
		e         api.Errno
	}{
		{"", "", api.OK}, {"z", "", api.OK}, {times(255, 24), "", api.OK}, {"", "\x00", api.OK}, {"", times(0, 24), api.OK},
		{"a", "b", api.OK}, {"a", "a\x00", api.OK}, {"\x7f", "\x80", api.OK}, {"abcdefgh", "abcdefghi", api.OK}, {times(255, 23), times(255, 24), api.OK},
		{"a", "a", api.ErrOrder}, {"b", "a", api.ErrOrder}, {"a\x00", "a", api.ErrOrder}, {"\x80", "\x7f", api.ErrOrder}, {"ab", "a", api.ErrOrder}, {"\x00", "\x00", api.ErrOrder}, {times(255, 24), times(255, 24), api.ErrOrder}, {times(255, 24), times(255, 23), api.ErrOrder},
	} {
		p, e := Make(3, x.low, x.high)
		if e != x.e || e != api.OK && p != (api.Page{}) {
			t.Errorf("%q %q: error %v; want %v", x.low, x.high, e, x.e)
		} else if e == api.OK {
			wantView(t, p, view{level: 3, gap: 108, low: x.low, high: x.high})
		}
	}
}

// P14.1: the errors of Make, of which the first one comes.
func TestMakeErrors(t *testing.T) {
	long := times('l', 25)
	for _, x := range []struct {
		level     int
		low, high string
		e         api.Errno
	}{
		{-1, "", "", api.ErrArg}, {6, "", "", api.ErrArg}, {7, "a", "b", api.ErrArg}, {math.MinInt, "", "", api.ErrArg}, {math.MaxInt, "", "", api.ErrArg}, {256, "", "", api.ErrArg},
		{-1, long, "a", api.ErrArg}, {6, "b", "a", api.ErrArg}, {6, "", long, api.ErrArg},
		{0, long, "", api.ErrLong}, {5, "", long, api.ErrLong}, {0, long, "a", api.ErrLong}, {0, long, long, api.ErrLong}, {0, "z", long, api.ErrLong}, {0, times('a', 41), "b", api.ErrLong}, {0, "a", times('b', 1<<20), api.ErrLong}, {0, times('a', 257), "b", api.ErrLong},
		{0, "b", "a", api.ErrOrder}, {5, "b", "b", api.ErrOrder},
	} {
		if p, e := Make(x.level, x.low, x.high); p != (api.Page{}) || e != x.e {
			t.Errorf("%v %.30q %.30q: error %v", x.level, x.low, x.high, e)
		}
	}
}

// P14.2: a leaf with keys and values of all lengths, one slot at a time.
func TestLeafSlots(t *testing.T) {
	for n := 1; n <= 24; n++ {
		for m := range 41 {
			for _, x := range []byte{0, 'a', 255} {
				k, v := times(x, n), times(x, m)
				p := with(made(t, 0, "", ""), pair("before", "1"), pair(k, v), pair("behind", "22"))
				cost := 1 + (n+7)/8 + (m+7)/8
				wantView(t, p, view{load: 6 + cost, gap: 102 - cost, pairs: []api.Pair{pair("before", "1"), pair(k, v), pair("behind", "22")}})
			}
		}
	}
}

// P14.2: pages that are no leaves, with the first and the last child, and keys of all lengths.
func TestInnerSlots(t *testing.T) {
	for level := 1; level < 6; level++ {
		for n := range 25 {
			k := times('k', n)
			l := []api.Pair{pair(k, number(1)), pair("m"+k[:max(n, 1)-1], number(511)), pair("z", number(256))}
			p := set(with(made(t, level, k, ""), l...), 10, 511)
			load := 3 + 3 + 1 + 2*((n+7)/8)
			if n == 0 {
				load++
			}
			wantView(t, p, view{level: level, next: 511, load: load, gap: 108 - load, low: k, pairs: l, children: []int{1, 511, 256}})
		}
	}
}

// P14.2: the same keys and values in any order, and more than once: a page need not be sorted.
func TestAnyOrder(t *testing.T) {
	l := []api.Pair{pair("c", "3"), pair("a", ""), pair("c", "3"), pair("b", times('b', 40)), pair("a", "1")}
	wantView(t, with(made(t, 0, "x", "y"), l...), view{load: 18, gap: 90, low: "x", high: "y", pairs: l})
	l = []api.Pair{pair("c", number(5)), pair("a", number(5)), pair("c", number(5))}
	wantView(t, with(made(t, 1, "", ""), l...), view{level: 1, load: 9, gap: 99, pairs: l, children: []int{5, 5, 5}})
}

// P14.2, P14.3: as many slots as a page can have.
func TestFull(t *testing.T) {
	p := made(t, 0, "", "")
	want := view{gap: 108}
	for i := range 54 {
		want.pairs = append(want.pairs, pair(string([]byte{byte(i)}), ""))
		want.load, want.gap = want.load+2, want.gap-2
		p = with(p, want.pairs[i])
		wantView(t, p, want)
	}
	p, want = made(t, 5, "", ""), view{level: 5, gap: 108}
	for i := range 36 {
		k := times(byte(i), min(i, 1))
		want.pairs, want.children = append(want.pairs, pair(k, number(uint64(i+1)))), append(want.children, i+1)
		want.load, want.gap = want.load+2+len(k), want.gap-2-len(k)
		p = with(p, want.pairs[i])
		wantView(t, p, want)
	}
	if want.gap != 1 {
		t.Error(want.gap)
	}
	p = with(made(t, 0, "", ""), slices.Repeat([]api.Pair{pair(times('k', 24), times('v', 40))}, 12)...)
	wantView(t, p, view{load: 108, pairs: slices.Repeat([]api.Pair{pair(times('k', 24), times('v', 40))}, 12)})
}

// P14.3: Cost, for all lengths that may be in a page, and for others.
func TestCost(t *testing.T) {
	for _, n := range []int{0, 1, 7, 8, 9, 16, 17, 23, 24, 25, 32, 33, 40, 41, 255, 256, 1000, 1 << 20} {
		for m := range 60 {
			a, b := times('a', n), times(0, m)
			if want := 1 + (n+7)/8 + (m+7)/8; Cost(a, b) != want || Cost(b, a) != want {
				t.Error(n, m, Cost(a, b), Cost(b, a), want)
			}
		}
	}
}

// P14.3: the load is that of the slots, the gap is above it, whatever lies between records or behind them.
func TestGapAndLoad(t *testing.T) {
	p := set(at(at(made(t, 0, "", ""), 100, "a", "12345678"), 110, "b", ""), 11, 90)
	l := []api.Pair{pair("a", "12345678"), pair("b", "")}
	wantView(t, p, view{load: 5, gap: 68, pairs: l})
	wantView(t, set(p, 11, 100), view{load: 5, gap: 78, pairs: l})
	wantView(t, set(p, 11, 22), view{load: 5, pairs: l})
	wantView(t, set(p, 11, 23), view{load: 5, gap: 1, pairs: l})
	wantView(t, set(made(t, 0, "", ""), 11, 20), view{})
	wantView(t, set(made(t, 0, "", ""), 11, 21), view{gap: 1})
}
