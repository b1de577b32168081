package keys

import (
	"strings"
	"testing"

	"ticketline/api"
)

// times returns a string of so many bytes, all of them the same.
func times(x byte, many int) string { return strings.Repeat(string([]byte{x}), many) }

// wantCompare checks what Compare returns of two strings, both ways round.
func wantCompare(t *testing.T, a, b string, want int) {
	t.Helper()
	if x, y := Compare(a, b), Compare(b, a); x != want || y != -want {
		t.Errorf("Compare(%q, %q): %v, and the other way round %v; want %v", a, b, x, y, want)
	}
}

// wantPrefix checks what Prefix returns of two strings, both ways round.
func wantPrefix(t *testing.T, a, b string, want int) {
	t.Helper()
	if x, y := Prefix(a, b), Prefix(b, a); x != want || y != want {
		t.Errorf("Prefix(%q, %q): %v, and the other way round %v; want %v", a, b, x, y, want)
	}
}

// wantAfter checks what After returns.
func wantAfter(t *testing.T, k, want string, wantE api.Errno) {
	t.Helper()
	if s, e := After(k); s != want || e != wantE {
		t.Errorf("After(%q): %q, error %v; want %q, error %v", k, s, e, want, wantE)
	}
}

// wantBetween checks what Between returns.
func wantBetween(t *testing.T, a, b, want string, wantE api.Errno) {
	t.Helper()
	if s, e := Between(a, b); s != want || e != wantE {
		t.Errorf("Between(%q, %q): %q, error %v; want %q, error %v", a, b, s, e, want, wantE)
	}
}

// P5.1: the limits, as the chapter writes them.
func TestLimits(t *testing.T) {
	if KeyWords != 3 || ValueWords != 5 || api.MaxKey != 24 || api.MaxValue != 40 {
		t.Error(KeyWords, ValueWords, api.MaxKey, api.MaxValue)
	}
}

// P5.1: keys and values have lengths, and any bytes.
func TestValid(t *testing.T) {
	for n := range 100 {
		for _, x := range []byte{0, 'a', 127, 128, 255} {
			s := times(x, n)
			if is := ValidKey(s); is != (n >= 1 && n <= 24) {
				t.Error(n, x, is)
			}
			if is := ValidValue(s); is != (n <= 40) {
				t.Error(n, x, is)
			}
		}
	}
	long := times('a', 1<<20)
	if ValidKey(long) || ValidValue(long) {
		t.Error("a long string")
	}
	if !ValidKey("éééééééééééé") || ValidKey("ééééééééééééé") || ValidValue("ééééééééééééééééééééé") { // two bytes each
		t.Error("bytes are counted, not runes")
	}
}

// P5.1: the examples of the chapter, and strings of one and two bytes, all of them.
func TestCompare(t *testing.T) {
	wantCompare(t, "a", "ab", -1)
	wantCompare(t, "b", "ab", 1)
	wantCompare(t, "", "", 0)
	wantCompare(t, "", "\x00", -1)
	wantCompare(t, "a\x00", "a", 1)
	wantCompare(t, "a\xff\xff", "b", -1)
	wantCompare(t, "\x7f", "\x80", -1) // bytes have no sign
	wantCompare(t, "\xef\xbf\xbd", "\xff", -1)
	wantCompare(t, times('a', 1000)+"b", times('a', 1000)+"c", -1)
	for x := range 256 {
		for y := range 256 {
			want := 0
			if x < y {
				want = -1
			} else if x > y {
				want = 1
			}
			a, b := string([]byte{byte(x)}), string([]byte{byte(y)})
			wantCompare(t, a, b, want)
			if x != y {
				wantCompare(t, "k"+a+"b", "k"+b+"a", want) // the first difference says it
			}
			wantCompare(t, a, a+b, -1)
		}
	}
}

// P5.1: Prefix, of strings of all lengths, that differ at all places.
func TestPrefix(t *testing.T) {
	wantPrefix(t, "abc", "abd", 2)
	wantPrefix(t, "", "", 0)
	wantPrefix(t, "", "a", 0)
	wantPrefix(t, "é", "è", 1)       // bytes, not runes
	wantPrefix(t, "axc", "ayc", 1)   // what is behind a difference does not count
	wantPrefix(t, "\xff", "\xfe", 0) // nor are all bytes that are not those of a rune the same
	for n := range 60 {
		s := times('x', n)
		wantPrefix(t, s, s, n)
		for m := range n {
			wantPrefix(t, s, s[:m], m)
			wantPrefix(t, s, s[:m]+"y"+s[m+1:], m)
			wantPrefix(t, s, s[:m]+"y", m)
		}
	}
}

// P5.3: the examples of the chapter, and keys of all lengths.
func TestAfter(t *testing.T) {
	wantAfter(t, "a", "a\x00", api.OK)
	wantAfter(t, times('a', 23)+"b", times('a', 23)+"c", api.OK)
	wantAfter(t, times('a', 23)+"\xff", times('a', 22)+"b", api.OK)
	wantAfter(t, times(255, 24), "", api.ErrNone)
	for n := 1; n < 24; n++ {
		for _, x := range []byte{0, 'a', 254, 255} { // a key that is not as long as may be is never shortened
			wantAfter(t, times(x, n), times(x, n)+"\x00", api.OK)
		}
		for _, x := range []byte{0, 1, 'a', 127, 128, 253, 254} {
			wantAfter(t, times(x, n)+times(255, 24-n), times(x, n-1)+times(x+1, 1), api.OK)
		}
	}
	for x := range 255 {
		for y := range 255 {
			k := times('k', 22) + string([]byte{byte(x), byte(y)})
			wantAfter(t, k, k[:23]+string([]byte{byte(y + 1)}), api.OK)
		}
	}
}

// P5.3: only bytes 255 are left out, not others that are no runes, and only those at the end.
func TestAfterLeavesOut(t *testing.T) {
	wantAfter(t, times(0xfe, 24), times(0xfe, 23)+"\xff", api.OK)
	wantAfter(t, times(0x80, 24), times(0x80, 23)+"\x81", api.OK)
	wantAfter(t, times(0x80, 22)+"\xff\xff", times(0x80, 21)+"\x81", api.OK)
	wantAfter(t, strings.Repeat("\xef\xbf\xbd", 8), strings.Repeat("\xef\xbf\xbd", 7)+"\xef\xbf\xbe", api.OK)
	wantAfter(t, times(255, 23)+"a", times(255, 23)+"b", api.OK)
	wantAfter(t, times(255, 12)+"a"+times(255, 11), times(255, 12)+"b", api.OK)
	wantAfter(t, "\x00"+times(255, 23), "\x01", api.OK)
	wantAfter(t, "\xfe"+times(255, 23), "\xff", api.OK)
	wantAfter(t, times('a', 23)+"\x00", times('a', 23)+"\x01", api.OK)
}

// P5.3: the examples of the chapter, and other keys.
func TestBetween(t *testing.T) {
	wantBetween(t, "ab", "ad", "ad", api.OK)
	wantBetween(t, "a", "abc", "ab", api.OK)
	wantBetween(t, "abc", "b", "b", api.OK)
	wantBetween(t, "b", "a", "", api.ErrOrder)
	wantBetween(t, "a", "a", "", api.ErrOrder)
	wantBetween(t, "ab", "a", "", api.ErrOrder)
	wantBetween(t, "a\x00", "a", "", api.ErrOrder)
	wantBetween(t, "a", "a\x00", "a\x00", api.OK)
	wantBetween(t, "a", "a\x00\x00", "a\x00", api.OK)
	wantBetween(t, "\x00", "\xff", "\xff", api.OK)
	wantBetween(t, "\x7f", "\x80", "\x80", api.OK)
	wantBetween(t, "abc", "bcd", "b", api.OK)
	wantBetween(t, "azzz", "bcd", "b", api.OK)
	for n := 1; n < 24; n++ {
		k := times('k', n)
		wantBetween(t, k, k+times('a', 24-n), k+"a", api.OK)
		wantBetween(t, k[1:]+"a"+times('z', 24-n), k[1:]+"b"+times('y', 24-n), k[1:]+"b", api.OK)
		wantBetween(t, times('k', 24), k, "", api.ErrOrder)
	}
	wantBetween(t, times('k', 24), times('k', 23)+"l", times('k', 23)+"l", api.OK)
	wantBetween(t, times('k', 24), times('k', 24), "", api.ErrOrder)
}

// P5.3: what is no key, which is looked at first.
func TestNoKeys(t *testing.T) {
	none := []string{"", times('a', 25), times(255, 25), times('m', 41), times(0, 1000)}
	for _, x := range none {
		wantAfter(t, x, "", api.ErrArg)
		for _, k := range []string{"\x00", "m", times(255, 24)} {
			wantBetween(t, x, k, "", api.ErrArg)
			wantBetween(t, k, x, "", api.ErrArg)
		}
		for _, y := range none {
			wantBetween(t, x, y, "", api.ErrArg)
		}
	}
}
