package script

import (
	"math"
	"slices"
	"strings"
	"testing"

	"ticketline/api"
)

// The operations.

func pick(thread, n int) api.Op { return api.Op{Kind: api.OpPick, Thread: thread, N: n} }

func ticks(n int) api.Op { return api.Op{Kind: api.OpTick, N: n} }

func round(n int) api.Op { return api.Op{Kind: api.OpRound, N: n} }

func ask(thread int, v api.Verb, ticks int) api.Op {
	return api.Op{Kind: api.OpStart, Thread: thread, Verb: v, Ticks: ticks}
}

// of, swapping, giving and finding return a request with further parts.

func of(o api.Op, key string) api.Op {
	o.Key = key
	return o
}

func swapping(o api.Op, old, value string) api.Op {
	o.Old, o.Value = old, value
	return o
}

func giving(o api.Op, value string) api.Op {
	o.Value = value
	return o
}

func finding(o api.Op, n int) api.Op {
	o.N = n
	return o
}

// noCounts returns numbers that no script is for so many threads.
func noCounts() []int { return []int{0, -1, api.MaxThreads + 1, math.MinInt, math.MaxInt} }

// wantParse checks what Parse returns.
func wantParse(t *testing.T, b []byte, threads int, want ...api.Op) {
	t.Helper()
	if l, e := Parse(b, threads); !slices.Equal(l, want) || e != api.OK {
		t.Errorf("Parse(%v, %v): %v, error %v; want %v", b, threads, l, e, want)
	}
}

// wantNext checks what Next returns.
func wantNext(t *testing.T, b []byte, threads int, want api.Op, many int) {
	t.Helper()
	if o, n, e := Next(b, threads); o != want || n != many || e != api.OK {
		t.Errorf("Next(%v, %v): %v, %v bytes, error %v; want %v, %v bytes", b, threads, o, n, e, want, many)
	}
}

// wantWrite checks what Write returns, and that Valid is true for what is written.
func wantWrite(t *testing.T, want []byte, l ...api.Op) {
	t.Helper()
	if b, e := Write(l); !slices.Equal(b, want) || e != api.OK {
		t.Errorf("Write(%v): %v, error %v; want %v", l, b, e, want)
	}
	for _, o := range l {
		if !Valid(o) {
			t.Errorf("%v is not valid", o)
		}
	}
}

// wantInvalid checks that an operation cannot be one of a script.
func wantInvalid(t *testing.T, o api.Op) {
	t.Helper()
	if Valid(o) {
		t.Errorf("%v is valid", o)
	}
	if b, e := Write([]api.Op{o}); len(b) != 0 || e != api.ErrArg {
		t.Errorf("Write(%v): %v, error %v", o, b, e)
	}
}

// P4.1: the limit, as the chapter writes it.
func TestLimit(t *testing.T) {
	if MaxScript != 4096 {
		t.Error(MaxScript)
	}
}

// P4.1 to P4.3: the examples of the chapter.
func TestExamples(t *testing.T) {
	wantParse(t, []byte{8, 3, 3, 9, 4, 7}, 2, pick(1, 4), ticks(9), round(8))
	wantParse(t, []byte{5, 0, 19, 14, 41, 0, 2, 7, 4, 1, 2, 3}, 3,
		of(ask(0, api.VerbGet, 0), Key(19)),
		giving(of(ask(1, api.VerbPut, 5), Key(0)), Value(2)),
		swapping(of(ask(0, api.VerbSwap, 0), Key(1)), Value(2), Value(3)))
	wantParse(t, []byte{5, 5, 1, 40, 13, 6, 5, 15}, 1,
		finding(of(ask(0, api.VerbScan, 0), Key(1)), 9), ask(0, api.VerbMin, 0), ask(0, api.VerbMax, 1))
	wantParse(t, []byte{6}, 1, of(ask(0, api.VerbGet, 0), Key(0)))
	wantNext(t, []byte{6, 7, 9}, 1, ask(0, api.VerbMax, 0), 2)
	wantWrite(t, []byte{8, 3, 4, 7}, pick(1, 4), round(8))
	wantWrite(t, []byte{5, 41, 0, 2}, giving(of(ask(0, api.VerbPut, 5), "aa"), "cc"))
	wantInvalid(t, pick(32, 1))
	wantInvalid(t, api.Op{Kind: api.OpTick, Thread: 1})
}

// P4.1: the operations without a verb, for all their bytes.
func TestNextPlain(t *testing.T) {
	for _, threads := range []int{1, 2, 3, 7, 31, 32, 33, 63, 64} {
		for x := range 256 {
			for p := range 256 {
				var want api.Op
				switch x % 8 {
				case 0, 1, 2:
					want = pick(x/8%threads, p%16+1)
				case 3:
					want = ticks(p)
				case 4:
					want = round(p%8 + 1)
				default:
					continue
				}
				if wantNext(t, []byte{byte(x), byte(p), 7}, threads, want, 2); t.Failed() {
					t.FailNow()
				}
			}
		}
	}
}

// asked returns the request that these bytes say, and how many bytes it has, as the tables of the chapter have it.
func asked(x, p, one, two, three byte, threads int) (api.Op, int) {
	o := ask(int(x)/8%threads, api.Verb(p%8+1), int(p)/8)
	switch o.Verb {
	case api.VerbGet, api.VerbDelete:
		return of(o, Key(one)), 3
	case api.VerbPut, api.VerbInsert:
		return giving(of(o, Key(one)), Value(two)), 4
	case api.VerbSwap:
		return swapping(of(o, Key(one)), Value(two), Value(three)), 5
	case api.VerbScan:
		return finding(of(o, Key(one)), int(two)%32+1), 4
	}
	return o, 2
}

// P4.1: requests, for all first and all second bytes, and all that may be behind them.
func TestNextRequest(t *testing.T) {
	for _, threads := range []int{1, 2, 5, 32, 64} {
		for x := range 256 {
			if x%8 < 5 {
				continue
			}
			for p := range 256 {
				b := []byte{byte(x), byte(p), byte(3*x + p), byte(5*p + x), byte(7*x + 3*p), 9}
				want, many := asked(b[0], b[1], b[2], b[3], b[4], threads)
				if wantNext(t, b, threads, want, many); t.Failed() {
					t.FailNow()
				}
			}
		}
	}
	for p := range 8 {
		for n := range 256 {
			for place := 2; place < 5; place++ {
				b := []byte{23, byte(p), 1, 2, 3}
				b[place] = byte(n)
				want, many := asked(b[0], b[1], b[2], b[3], b[4], 2)
				wantNext(t, b, 2, want, many)
			}
		}
	}
}

// P4.1: bytes that are missing at the end are 0, and are not counted.
func TestMissing(t *testing.T) {
	for _, b := range [][]byte{{250, 15}, {11, 9}, {12, 6}, {29, 88, 5}, {30, 9, 6, 4}, {31, 18, 33, 44}, {5, 27, 7}, {6, 252, 1, 2, 3}, {15, 253, 8, 77}, {21, 14}, {22, 127}} {
		whole, many, e := Next(b, 5)
		if many != len(b) || e != api.OK {
			t.Fatal(b, whole, many, e)
		}
		for n := 1; n <= len(b); n++ {
			zeros := append(slices.Clone(b[:n]), 0, 0, 0, 0)
			want, all, e := Next(zeros, 5)
			if all != len(b) && n > 1 || e != api.OK { // the second byte says how many there are
				t.Fatal(b, n, all, e)
			}
			wantNext(t, b[:n], 5, want, n)
			wantParse(t, b[:n], 5, want)
			wantParse(t, slices.Concat([]byte{3, 1}, b[:n]), 5, ticks(1), want)
		}
	}
	wantParse(t, []byte{0}, 1, pick(0, 1))
	wantParse(t, []byte{3}, 1, ticks(0))
	wantParse(t, []byte{4}, 1, round(1))
	wantParse(t, []byte{5, 5}, 1, finding(of(ask(0, api.VerbScan, 0), "aa"), 1))
	wantParse(t, []byte{5, 4, 1}, 1, of(ask(0, api.VerbSwap, 0), "abx"))
}

// P4.1: Parse of no bytes, and of as many as there may be.
func TestParseLengths(t *testing.T) {
	for _, threads := range []int{1, api.MaxThreads} {
		wantParse(t, nil, threads)
		wantParse(t, []byte{}, threads)
		l, e := Parse(make([]byte, MaxScript), threads)
		if len(l) != MaxScript/2 || e != api.OK {
			t.Error(threads, len(l), e)
		}
		l, e = Parse(make([]byte, MaxScript-1), threads)
		if len(l) != MaxScript/2 || e != api.OK || slices.ContainsFunc(l, func(o api.Op) bool { return o != pick(0, 1) }) {
			t.Error(threads, len(l), e)
		}
	}
}

// P4.1: the errors of Next and Parse, in their order; Next may be given more bytes than a script has.
func TestReadErrors(t *testing.T) {
	long := make([]byte, MaxScript+1)
	for _, threads := range noCounts() {
		for _, b := range [][]byte{nil, {}, {5}, {8, 3}, long} {
			if l, e := Parse(b, threads); len(l) != 0 || e != api.ErrArg {
				t.Error(len(b), threads, l, e)
			}
			if o, n, e := Next(b, threads); o != (api.Op{}) || n != 0 || e != api.ErrArg {
				t.Error(len(b), threads, o, n, e)
			}
		}
	}
	for _, threads := range []int{1, 2, api.MaxThreads} {
		for _, b := range [][]byte{nil, {}} {
			if o, n, e := Next(b, threads); o != (api.Op{}) || n != 0 || e != api.ErrShort {
				t.Error(threads, o, n, e)
			}
		}
		if l, e := Parse(long, threads); len(l) != 0 || e != api.ErrLong {
			t.Error(threads, l, e)
		}
		wantNext(t, long, threads, pick(0, 1), 2)
	}
}

// P4.2: the least and the greatest numbers of each kind and verb.
func TestWrite(t *testing.T) {
	wantWrite(t, nil)
	wantWrite(t, []byte{0, 0}, pick(0, 1))
	wantWrite(t, []byte{248, 15}, pick(31, 16))
	wantWrite(t, []byte{3, 0}, ticks(0))
	wantWrite(t, []byte{3, 255}, ticks(255))
	wantWrite(t, []byte{4, 0}, round(1))
	wantWrite(t, []byte{4, 7}, round(8))
	wantWrite(t, []byte{5, 6}, ask(0, api.VerbMin, 0))
	wantWrite(t, []byte{253, 255}, ask(31, api.VerbMax, 31))
	wantWrite(t, []byte{5, 0, 0}, of(ask(0, api.VerbGet, 0), "aa"))
	wantWrite(t, []byte{13, 11, 255}, of(ask(1, api.VerbDelete, 1), "ppxx"))
	wantWrite(t, []byte{5, 1, 0, 0}, of(ask(0, api.VerbPut, 0), "aa"))
	wantWrite(t, []byte{29, 250, 23, 255}, giving(of(ask(3, api.VerbInsert, 31), "bh"), strings.Repeat("v", 9)))
	wantWrite(t, []byte{5, 4, 23, 40, 0}, swapping(of(ask(0, api.VerbSwap, 0), "bh"), strings.Repeat("o", 40), ""))
	wantWrite(t, []byte{5, 4, 0, 0, 1}, swapping(of(ask(0, api.VerbSwap, 0), "aa"), "", "b"))
	wantWrite(t, []byte{5, 5, 0, 0}, finding(of(ask(0, api.VerbScan, 0), "aa"), 1))
	wantWrite(t, []byte{5, 5, 22, 31}, finding(of(ask(0, api.VerbScan, 0), Key(22)), 32))
}

// wantLeast checks that an operation is written with the bytes that say it first, if these are given in increasing order; none of them may be missing.
func wantLeast(t *testing.T, seen map[api.Op]bool, b ...byte) {
	t.Helper()
	o, _, e := Next(b, api.MaxThreads)
	if e != api.OK {
		t.Fatal(b, e)
	}
	if !seen[o] {
		wantWrite(t, b, o)
	}
	seen[o] = true
	if t.Failed() {
		t.FailNow()
	}
}

// P4.2: of all bytes that say an operation the least ones are written.
func TestWriteLeast(t *testing.T) {
	seen := map[api.Op]bool{}
	for x := range 256 {
		for p := range 256 {
			if x%8 < 5 || p%8 >= 6 {
				wantLeast(t, seen, byte(x), byte(p))
			}
		}
	}
	if many := 32*16 + 256 + 8 + 2*32*32; len(seen) != many {
		t.Error(len(seen), many)
	}
	for _, x := range []byte{5, 6, 7, 253, 254, 255} {
		for n := range 256 {
			for _, p := range []byte{0, 3, 56, 251} {
				wantLeast(t, seen, x, p, byte(n))
			}
			for _, p := range []byte{1, 2, 5, 249, 253} {
				wantLeast(t, seen, x, p, 9, byte(n))
			}
		}
		for o := range 256 {
			for _, v := range []byte{0, 1, 40, 41, 42, 82, 205, 255} { // 0, 41, 82 and 205 are values without bytes
				wantLeast(t, seen, x, 4, 77, byte(o), v)
			}
		}
	}
}

// P4.2: numbers that are out of range.
func TestInvalidNumbers(t *testing.T) {
	far := []int{-1, math.MinInt, math.MaxInt, math.MinInt + 1, 1 << 8, 1 << 16, 1 << 32, 1 << 61, -1 << 61, 1 << 62}
	for _, n := range append(far, 0, 17, 1<<8+1) {
		wantInvalid(t, pick(0, n))
	}
	for _, n := range append(far, 0, 9, 1<<8+1) {
		wantInvalid(t, round(n))
	}
	for _, n := range append(far, 1<<8+1) {
		wantInvalid(t, ticks(n))
	}
	for _, n := range append(far, 0, 33, 1<<8+1) {
		wantInvalid(t, finding(of(ask(0, api.VerbScan, 0), "aa"), n))
	}
	for _, n := range append(far, 32, 63, 64) {
		wantInvalid(t, pick(n, 1))
		wantInvalid(t, ask(n, api.VerbMin, 0))
		wantInvalid(t, of(ask(n, api.VerbGet, 0), "aa"))
		wantInvalid(t, ask(0, api.VerbMin, n))
		wantInvalid(t, of(ask(0, api.VerbGet, n), "aa"))
	}
	for _, n := range append(far, 0, 9) {
		wantInvalid(t, ask(0, api.Verb(n), 0))
		wantInvalid(t, ask(0, api.Verb(n), 1))
		wantInvalid(t, of(ask(0, api.Verb(n), 0), "aa"))
	}
	for _, n := range append(far, 0, 5) {
		wantInvalid(t, api.Op{Kind: api.OpKind(n)})
		wantInvalid(t, api.Op{Kind: api.OpKind(n), N: 1})
		wantInvalid(t, api.Op{Kind: api.OpKind(n), Verb: api.VerbMin})
	}
}

// P4.2: keys and values that have no number.
func TestInvalidTexts(t *testing.T) {
	for _, s := range []string{"", "a", "aax", "ab", "abxx", "qa", "aq", "Aa", "aA", "`a", "a`", "bg" + strings.Repeat("x", 21), "bg" + strings.Repeat("x", 23), "bg" + strings.Repeat("x", 21) + "y", strings.Repeat("x", 24), "aa" + strings.Repeat("x", 256), "\x61\x61\x00", "\x61\xff", "\xff\xff", strings.Repeat("a", 1<<16)} {
		for _, v := range []api.Verb{api.VerbGet, api.VerbPut, api.VerbInsert, api.VerbDelete, api.VerbSwap} {
			wantInvalid(t, of(ask(0, v, 0), s))
		}
		wantInvalid(t, finding(of(ask(0, api.VerbScan, 0), s), 1))
	}
	for _, s := range []string{"a", "c", "bb", "ccc", "cC", "cd", "dc", "c\x00", strings.Repeat("o", 39), strings.Repeat("o", 41), strings.Repeat("a", 256), "\xff", strings.Repeat("a", 1<<16)} {
		for _, v := range []api.Verb{api.VerbPut, api.VerbInsert, api.VerbSwap} {
			wantInvalid(t, giving(of(ask(0, v, 0), "aa"), s))
		}
		wantInvalid(t, swapping(of(ask(0, api.VerbSwap, 0), "aa"), s, ""))
	}
}

// P4.2: parts that an operation does not need, in each of the operations.
func TestInvalidParts(t *testing.T) {
	more := func(o api.Op, part string) api.Op {
		switch part {
		case "thread":
			o.Thread++
		case "n":
			o.N++
		case "verb":
			o.Verb = api.VerbMin
		case "key":
			o.Key = "aa"
		case "value":
			o.Value = "b"
		case "old":
			o.Old = "b"
		case "ticks":
			o.Ticks = 1
		}
		return o
	}
	for _, c := range []struct {
		o     api.Op
		parts string
	}{
		{pick(0, 1), "verb key value old ticks"},
		{ticks(0), "thread verb key value old ticks"},
		{ticks(7), "thread verb key value old ticks"},
		{round(1), "thread verb key value old ticks"},
		{of(ask(0, api.VerbGet, 0), "aa"), "n value old"},
		{of(ask(0, api.VerbPut, 0), "aa"), "n old"},
		{of(ask(0, api.VerbInsert, 0), "aa"), "n old"},
		{of(ask(0, api.VerbDelete, 0), "aa"), "n value old"},
		{of(ask(0, api.VerbSwap, 0), "aa"), "n"},
		{finding(of(ask(0, api.VerbScan, 0), "aa"), 1), "value old"},
		{ask(0, api.VerbMin, 0), "n key value old"},
		{ask(0, api.VerbMax, 0), "n key value old"},
	} {
		if !Valid(c.o) {
			t.Error(c.o)
		}
		for _, part := range strings.Fields(c.parts) {
			wantInvalid(t, more(c.o, part))
		}
	}
}

// P4.2: ErrArg for an operation anywhere comes before ErrLong; a script may have as many bytes as there may be, and no more.
func TestWriteErrors(t *testing.T) {
	full := slices.Repeat([]api.Op{pick(31, 16)}, MaxScript/2)
	if b, e := Write(full); len(b) != MaxScript || e != api.OK {
		t.Error(len(b), e)
	}
	get := of(ask(0, api.VerbGet, 0), "aa")
	for i, c := range []struct {
		l []api.Op
		e api.Errno
	}{
		{append(slices.Clone(full[2:]), get), api.OK},
		{append(slices.Clone(full[1:]), get), api.ErrLong},
		{append(slices.Clone(full), pick(0, 1)), api.ErrLong},
		{append(slices.Clone(full), pick(0, 0)), api.ErrArg},
		{append([]api.Op{pick(32, 1)}, full...), api.ErrArg},
		{append(slices.Repeat(full, 5), api.Op{}), api.ErrArg},
		{slices.Repeat(full, 5), api.ErrLong},
		{[]api.Op{pick(0, 1), {}}, api.ErrArg},
		{[]api.Op{ticks(256), pick(0, 1)}, api.ErrArg},
	} {
		if b, e := Write(c.l); e != c.e || (e == api.OK) != (len(b) > 0) {
			t.Error(i, len(b), e)
		}
	}
}

// P4.3: keys and values, as the chapter defines them.
func TestKeyAndValue(t *testing.T) {
	letters := "abcdefghijklmnopqrstuvwxyz"
	for n := range 256 {
		k := letters[n/16:n/16+1] + letters[n%16:n%16+1]
		for range n % 23 {
			k += "x"
		}
		if Key(byte(n)) != k {
			t.Error(n, Key(byte(n)), k)
		}
		v := ""
		for range n % 41 {
			v += letters[n%26 : n%26+1]
		}
		if Value(byte(n)) != v {
			t.Error(n, Value(byte(n)), v)
		}
	}
	for i, is := range []bool{Key(0) == "aa", Key(19) == "bd"+strings.Repeat("x", 19), Key(22) == "bg"+strings.Repeat("x", 22), Key(23) == "bh", len(Key(255)) == 4, Value(0) == "", Value(3) == "ddd", len(Value(40)) == 40, Value(41) == "", Value(255) == strings.Repeat("v", 9)} {
		if !is {
			t.Error(i)
		}
	}
}
