package keys

import (
	"math"
	"slices"
	"testing"

	"ticketline/api"
)

// numbers returns a function that returns numbers from 0 to below another one, the same ones each time.
func numbers(seed uint64) func(n int) int {
	return func(n int) int {
		seed = seed*6364136223846793005 + 1442695040888963407
		return int((seed >> 33) % uint64(n))
	}
}

// someString returns a string of so many bytes; most of them are those at which something changes.
func someString(next func(n int) int, many int) string {
	b := make([]byte, many)
	for i := range b {
		b[i] = []byte{0, 1, 'a', 127, 128, 254, 255, byte(next(256))}[next(8)]
	}
	return string(b)
}

// ends returns all strings of at most so many bytes 0, 1, 254 and 255.
func ends(many int) []string {
	l := []string{""}
	for from := 0; many > 0; many-- {
		to := len(l)
		for _, s := range l[from:to] {
			for _, x := range []byte{0, 1, 254, 255} {
				l = append(l, s+times(x, 1))
			}
		}
		from = to
	}
	return l
}

// keyLists returns lists of keys, in each of which there are keys of all lengths at which something changes.
func keyLists() [][]string {
	short := ends(4)[1:]
	var long []string
	for _, s := range ends(4) {
		long = append(long, times('k', 20)+s)
	}
	last := []string{}
	for _, s := range ends(3) {
		last = append(last, times(255, 21)+s)
	}
	next := numbers(5)
	var some []string
	for range 200 {
		some = append(some, someString(next, 1+next(api.MaxKey)))
	}
	return [][]string{short, long, last, some}
}

// before reports whether a string comes before another one, as the chapter defines it.
func before(a, b string) bool {
	for i := 0; i < len(a) && i < len(b); i++ {
		if a[i] != b[i] {
			return a[i] < b[i]
		}
	}
	return len(a) < len(b)
}

// P5.4: Compare is an order, the one of the chapter, in which of two different strings one comes first, and which agrees for three.
func TestOrder(t *testing.T) {
	for _, l := range keyLists() {
		l = append(l, "", times('k', 60), times('k', 60)+"a")
		for _, a := range l {
			for _, b := range l {
				want := 0
				if before(a, b) {
					want = -1
				} else if before(b, a) {
					want = 1
				}
				wantCompare(t, a, b, want)
				if (want == 0) != (a == b) {
					t.Errorf("%q %q", a, b)
				}
			}
		}
	}
	l := append(ends(2), "a", "ab", "b", times('k', 24), times('k', 24)+"a")
	for _, a := range l {
		for _, b := range l {
			for _, c := range l {
				if Compare(a, b) <= 0 && Compare(b, c) <= 0 && Compare(a, c) > 0 {
					t.Errorf("%q %q %q", a, b, c)
				}
			}
		}
	}
}

// P5.4: Unpack inverts Pack, and Pack Unpack.
func TestInverse(t *testing.T) {
	next := numbers(6)
	for range 3000 {
		s := someString(next, next(api.MaxValue+1))
		l, e := Pack(s)
		if len(l) != Words(len(s)) || e != api.OK {
			t.Fatalf("%q %x %v", s, l, e)
		}
		wantUnpack(t, l, len(s), s, api.OK)
	}
	for range 3000 {
		n := next(api.MaxValue + 1)
		l := make([]uint64, Words(n))
		for i := range l {
			l[i] = uint64(next(1<<20)) << (8 * next(8))
		}
		if s, e := Unpack(l, n); e == api.OK {
			wantPack(t, s, l...)
		} else if s != "" || e != api.ErrMalformed {
			t.Fatalf("%x %v %q %v", l, n, s, e)
		}
	}
}

// P5.4: strings with equally many bytes are in the order of their words.
func TestOrderOfWords(t *testing.T) {
	next := numbers(8)
	for range 3000 {
		n := next(api.MaxValue + 1)
		common := next(n + 1)
		front := someString(next, common)
		a, b := front+someString(next, n-common), front+someString(next, n-common)
		la, _ := Pack(a)
		lb, _ := Pack(b)
		wantCompare(t, a, b, slices.Compare(la, lb))
	}
}

// P5.4: After of a key is a key that comes after it, and no key comes between the two.
func TestAfterIsNext(t *testing.T) {
	for _, l := range keyLists() {
		for _, k := range l {
			s, e := After(k)
			if e != api.OK {
				if s != "" || e != api.ErrNone || k != times(255, 24) {
					t.Errorf("After(%q): %q, error %v", k, s, e)
				}
				continue
			}
			if !ValidKey(s) || !before(k, s) {
				t.Errorf("After(%q): %q", k, s)
			}
			for _, x := range l {
				if before(k, x) && before(x, s) {
					t.Errorf("%q comes between %q and %q", x, k, s)
				}
			}
		}
	}
}

// P5.4: the greatest key is the only one after which no key comes.
func TestNothingAfter(t *testing.T) {
	for _, l := range keyLists() {
		for _, k := range l {
			if last := times(255, 24); before(last, k) {
				t.Errorf("%q", k)
			} else if _, e := After(k); (e == api.ErrNone) != (k == last) {
				t.Errorf("%q %v", k, e)
			}
		}
	}
}

// P5.4: Between is a beginning of the second key, comes after the first one, and not after the second one; no shorter beginning comes after the first one; and it has at most one byte more than what they have in common.
func TestBetweenIsShortest(t *testing.T) {
	for _, l := range keyLists() {
		for _, a := range l {
			for _, b := range l {
				s, e := Between(a, b)
				if !before(a, b) {
					if s != "" || e != api.ErrOrder {
						t.Errorf("Between(%q, %q): %q, error %v", a, b, s, e)
					}
					continue
				}
				n := 1 // how long the shortest beginning is
				for !before(a, b[:n]) {
					n++
				}
				if s != b[:n] || e != api.OK || !ValidKey(s) || before(b, s) || len(s) > Prefix(a, b)+1 {
					t.Errorf("Between(%q, %q): %q, error %v", a, b, s, e)
				}
			}
		}
	}
}

// P5.4: nothing comes between a key and After of it, so After separates it from all that come after it.
func TestAfterAndBetween(t *testing.T) {
	for _, l := range keyLists() {
		for _, k := range l {
			s, e := After(k)
			if e != api.OK {
				continue
			}
			wantBetween(t, k, s, s, api.OK)
			wantBetween(t, s, k, "", api.ErrOrder)
			wantBetween(t, s, s, "", api.ErrOrder)
		}
	}
}

// P5.2: the words that are given are not changed, those that are returned are new each time, and equal calls have equal results.
func TestResultsAreNew(t *testing.T) {
	l := []uint64{0x6162636465666768, 0x69 << 56}
	wantUnpack(t, l, 9, "abcdefghi", api.OK)
	wantUnpack(t, l, 8, "", api.ErrMalformed)
	if !slices.Equal(l, []uint64{0x6162636465666768, 0x69 << 56}) {
		t.Error(l)
	}
	s, _ := Unpack(l, 9)
	l[0], l[1] = 0, 0
	if s != "abcdefghi" {
		t.Error(s)
	}
	first, _ := Pack(s)
	first[0], first[1] = 1, 2
	_ = append(first[:1], 3)
	wantPack(t, s, 0x6162636465666768, 0x69<<56)
	none, _ := Pack("")
	_ = append(none, 7)
	wantPack(t, "")
}

// P1: no call panics; with an error there is no other result, and each error is the one that the chapter names first.
func FuzzCalls(f *testing.F) {
	f.Add("", "", 0, 0, uint64(0), uint64(0))
	f.Add("a", "abc", 2, 1, uint64(97<<56+98<<48), uint64(0))
	f.Add(times(255, 24), times(255, 24), -1, 3, uint64(math.MaxUint64), uint64(math.MaxUint64))
	f.Add(times(255, 25), times('x', 24), 41, 6, uint64(1), uint64(0))
	f.Add(times('x', 23)+"\xff", times('x', 23), 40, 5, uint64(1), uint64(2))
	f.Add(times(0, 41), times(0, 40), math.MaxInt, 1<<10, uint64(1)<<63, uint64(0))
	f.Add("\xef\xbf\xbd", "\xff", math.MinInt, 2, uint64(0), uint64(1)<<48)
	f.Fuzz(func(t *testing.T, a, b string, bytes, many int, word, last uint64) {
		isA, isB := len(a) >= 1 && len(a) <= 24, len(b) >= 1 && len(b) <= 24
		if ValidKey(a) != isA || ValidKey(b) != isB || ValidValue(a) != (len(a) <= 40) {
			t.Fatalf("%q %q", a, b)
		}
		if x := Compare(a, b); (x < 0) != before(a, b) || (x > 0) != before(b, a) || x*x > 1 {
			t.Fatalf("%q %q %v", a, b, x)
		}
		if n := Prefix(a, b); a[:n] != b[:n] || n < len(a) && n < len(b) && a[n] == b[n] {
			t.Fatalf("%q %q %v", a, b, n)
		}
		s, e := After(a)
		if (e == api.ErrArg) == isA || (e == api.ErrNone) != (a == times(255, 24)) || (e == api.OK) != before(a, s) {
			t.Fatalf("%q %q %v", a, s, e)
		}
		s, e = Between(a, b)
		if (e == api.ErrArg) != (!isA || !isB) || (e == api.OK) != (isA && isB && before(a, b)) || (e == api.OK) != (s != "") {
			t.Fatalf("%q %q %q %v", a, b, s, e)
		}
		if l, e := Pack(b); (e == api.OK) != (len(b) <= 40) || (e == api.ErrLong) != (len(b) > 40) || len(l) != Words(len(b)) && e == api.OK {
			t.Fatalf("%q %x %v", b, l, e)
		}
		wantFuzzUnpack(t, bytes, many, word, last)
	})
}

// wantFuzzUnpack checks what Unpack returns of so many words, all of them the same but for the last one.
func wantFuzzUnpack(t *testing.T, bytes, many int, word, last uint64) {
	t.Helper()
	l := slices.Repeat([]uint64{word}, int(uint(many)%10))
	if len(l) > 0 {
		l[len(l)-1] = last
	}
	s, e := Unpack(l, bytes)
	want := api.OK
	switch {
	case bytes < 0:
		want = api.ErrArg
	case bytes > 40:
		want = api.ErrLong
	case len(l) != (bytes+7)/8 || bytes%8 > 0 && last<<(8*(bytes%8)) != 0:
		want = api.ErrMalformed
	}
	if e != want || e != api.OK && s != "" || e == api.OK && len(s) != bytes {
		t.Fatalf("Unpack(%x, %v): %q, error %v; want error %v", l, bytes, s, e, want)
	}
	if e == api.OK {
		wantPack(t, s, l...)
	}
}
