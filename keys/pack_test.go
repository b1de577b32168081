package keys

import (
	"math"
	"slices"
	"testing"

	"ticketline/api"
)

// wantPack checks that the words of a string are these, and that these are the words of no other string.
func wantPack(t *testing.T, s string, want ...uint64) {
	t.Helper()
	if l, e := Pack(s); !slices.Equal(l, want) || e != api.OK {
		t.Errorf("Pack(%q): %x, error %v; want %x", s, l, e, want)
	}
	wantUnpack(t, want, len(s), s, api.OK)
	if n := Words(len(s)); n != len(want) {
		t.Errorf("Words(%v): %v; want %v", len(s), n, len(want))
	}
}

// wantUnpack checks what Unpack returns.
func wantUnpack(t *testing.T, l []uint64, bytes int, want string, wantE api.Errno) {
	t.Helper()
	if s, e := Unpack(l, bytes); s != want || e != wantE {
		t.Errorf("Unpack(%x, %v): %q, error %v; want %q, error %v", l, bytes, s, e, want, wantE)
	}
}

// P5.2: Words, for all numbers of bytes that may be, and for far ones.
func TestWords(t *testing.T) {
	for i, n := range []int{0, 1, 1, 1, 1, 1, 1, 1, 1, 2, 2, 2, 2, 2, 2, 2, 2, 3, 3, 3, 3, 3, 3, 3, 3, 4, 4, 4, 4, 4, 4, 4, 4, 5, 5, 5, 5, 5, 5, 5, 5, 6} {
		if x := Words(i); x != n {
			t.Error(i, x, n)
		}
	}
	for bytes, n := range map[int]int{-1: 0, -7: 0, -8: 0, -9: 0, -64: 0, math.MinInt: 0, math.MinInt + 1: 0, 8000: 1000, 8001: 1001, math.MaxInt: 1 << 60, math.MaxInt - 6: 1 << 60, math.MaxInt - 7: 1<<60 - 1} {
		if x := Words(bytes); x != n {
			t.Error(bytes, x, n)
		}
	}
	if Words(api.MaxKey) != KeyWords || Words(api.MaxValue) != ValueWords {
		t.Error("the words of the longest ones")
	}
}

// P5.2: the examples of the chapter, and strings whose words can be read off.
func TestPack(t *testing.T) {
	wantPack(t, "ab", 97<<56+98<<48)
	wantPack(t, "")
	wantPack(t, times(1, 9), 0x0101010101010101, 1<<56)
	wantPack(t, "\x01\x02\x03\x04\x05\x06\x07\x08", 0x0102030405060708)
	wantPack(t, "\xf1\xf2\xf3\xf4\xf5\xf6\xf7\xf8\xf9\xfa\xfb\xfc\xfd\xfe\xff", 0xf1f2f3f4f5f6f7f8, 0xf9fafbfcfdfeff00)
	wantPack(t, "\x00", 0)
	wantPack(t, "\x00\x00\x00\x00\x00\x00\x00\x00", 0)
	wantPack(t, "\x00\x00\x00\x00\x00\x00\x00\x00\x00", 0, 0)
	wantPack(t, times(255, 24), math.MaxUint64, math.MaxUint64, math.MaxUint64)
	wantPack(t, times(255, 40), math.MaxUint64, math.MaxUint64, math.MaxUint64, math.MaxUint64, math.MaxUint64)
	wantPack(t, times(255, 39), math.MaxUint64, math.MaxUint64, math.MaxUint64, math.MaxUint64, 0xffffffffffffff00)
}

// P5.2: a single byte that is not 0, at each place of strings of all lengths.
func TestPackPlaces(t *testing.T) {
	for n := range api.MaxValue + 1 {
		for i := range n {
			for _, x := range []byte{1, 'a', 128, 255} {
				want := make([]uint64, (n+7)/8)
				want[i/8] = uint64(x) << (56 - 8*(i%8))
				wantPack(t, times(0, i)+times(x, 1)+times(0, n-1-i), want...)
			}
		}
	}
}

// P5.2: strings that are too long, whatever their bytes are.
func TestPackLong(t *testing.T) {
	for _, n := range []int{41, 42, 47, 48, 64, 1000, 1 << 20} {
		for _, x := range []byte{0, 'a', 255} {
			if l, e := Pack(times(x, n)); len(l) != 0 || e != api.ErrLong {
				t.Error(n, x, len(l), e)
			}
		}
	}
}

// P5.2: the examples of the chapter, and numbers of bytes that are wrong, which is looked at before the words.
func TestUnpack(t *testing.T) {
	ab, _ := Pack("ab")
	wantUnpack(t, ab, 2, "ab", api.OK)
	wantUnpack(t, ab, 1, "", api.ErrMalformed)
	wantUnpack(t, ab, 9, "", api.ErrMalformed)
	wantUnpack(t, nil, 0, "", api.OK)
	wantUnpack(t, []uint64{}, 0, "", api.OK)
	for _, l := range [][]uint64{nil, {}, {0}, ab, {1, 2, 3, 4, 5}, make([]uint64, 6), make([]uint64, 1000)} {
		for _, n := range []int{-1, -2, -8, -41, math.MinInt} {
			wantUnpack(t, l, n, "", api.ErrArg)
		}
		for _, n := range []int{41, 48, 8000, math.MaxInt} {
			wantUnpack(t, l, n, "", api.ErrLong)
		}
	}
}

// P5.2: too few words, and too many.
func TestUnpackWords(t *testing.T) {
	for n := range api.MaxValue + 1 {
		for many := range 8 {
			want, wantE := "", api.ErrMalformed
			if many == (n+7)/8 {
				want, wantE = times(0, n), api.OK
			}
			wantUnpack(t, make([]uint64, many), n, want, wantE)
		}
	}
	wantUnpack(t, make([]uint64, 1<<16), 40, "", api.ErrMalformed)
}

// P5.2: a bit that is not 0, at each place of the words: behind the bytes it is wrong, and otherwise it is in its byte.
func TestUnpackBits(t *testing.T) {
	for n := range api.MaxValue + 1 {
		for bit := range 64 * Words(n) {
			l := make([]uint64, Words(n))
			l[bit/64] = 1 << (63 - bit%64)
			if at := bit / 8; at < n {
				wantUnpack(t, l, n, times(0, at)+times(1<<(7-bit%8), 1)+times(0, n-1-at), api.OK)
			} else {
				wantUnpack(t, l, n, "", api.ErrMalformed)
			}
		}
	}
}
