package script

import (
	"slices"
	"testing"

	"ticketline/api"
)

// numbers returns a function that returns numbers from 0 to below another one, the same ones each time.
func numbers(seed uint64) func(n int) int {
	return func(n int) int {
		seed = seed*6364136223846793005 + 1442695040888963407
		return int((seed >> 33) % uint64(n))
	}
}

// someBytes returns so many bytes.
func someBytes(next func(n int) int, many int) []byte {
	b := make([]byte, many)
	for i := range b {
		b[i] = byte(next(256))
	}
	return b
}

// wantRead checks that bytes are a script: that each operation can be one of a script, and has a thread that there is.
func wantRead(t *testing.T, b []byte, threads int) {
	t.Helper()
	l, e := Parse(b, threads)
	if e != api.OK {
		t.Fatal(b, threads, e)
	}
	for _, o := range l {
		if !Valid(o) || o.Thread < 0 || o.Thread >= threads {
			t.Fatal(b, threads, o)
		}
	}
	wantEnds(t, b, threads, l)
	if len(b)+4 > MaxScript {
		l = l[:len(l)-1] // bytes may be missing of the last one, and then there is no room for all
	}
	wantAgain(t, l)
}

// wantEnds checks that Next reads one operation after the other, and that what ends behind each of them has the ones up to it.
func wantEnds(t *testing.T, b []byte, threads int, l []api.Op) {
	t.Helper()
	at := 0
	for i, o := range l {
		x, n, e := Next(b[at:], threads)
		if x != o || n < 1 || n > 5 || e != api.OK {
			t.Fatal(b, threads, i, x, o, n, e)
		}
		if at += n; at > len(b) {
			t.Fatal(b, threads, i, at)
		}
		if first, e := Parse(b[:at], threads); !slices.Equal(first, l[:i+1]) || e != api.OK {
			t.Fatal(b, threads, i, first, e)
		}
	}
	if at != len(b) {
		t.Fatal(b, threads, at, "bytes were read")
	}
}

// wantAgain checks that operations are the same ones again when they are written and read, if there are more threads than any of them has.
func wantAgain(t *testing.T, l []api.Op) {
	t.Helper()
	least := 1
	for _, o := range l {
		least = max(least, o.Thread+1)
	}
	b, e := Write(l)
	if e != api.OK {
		t.Fatal(l, e)
	}
	for _, threads := range []int{least, (least + api.MaxThreads) / 2, api.MaxThreads} {
		if again, e := Parse(b, threads); !slices.Equal(again, l) || e != api.OK {
			t.Fatal(threads, b, again, e)
		}
	}
}

// P4.4: any bytes are a script: all short ones of some bytes, and longer ones.
func TestAnyBytes(t *testing.T) {
	some := []byte{0, 1, 3, 4, 5, 6, 9, 13, 39, 44, 130, 254, 255}
	for _, x := range some {
		wantRead(t, []byte{x}, 3)
		for _, y := range some {
			wantRead(t, []byte{x, y}, 3)
			for _, z := range some {
				wantRead(t, []byte{x, y, z}, 3)
				for _, w := range some {
					wantRead(t, []byte{x, y, z, w}, 40)
				}
			}
		}
	}
	next := numbers(7)
	for range 400 {
		wantRead(t, someBytes(next, next(60)), 1+next(api.MaxThreads))
	}
	for _, many := range []int{0, MaxScript - 1, MaxScript} {
		wantRead(t, someBytes(next, many), 1+next(api.MaxThreads))
	}
}

// P4.4: what is written is never longer than what it was read from, but for bytes that were missing, and is written again as it is.
func TestWriteAgain(t *testing.T) {
	next := numbers(9)
	for range 400 {
		from := someBytes(next, next(60))
		l, e := Parse(from, api.MaxThreads)
		if e != api.OK {
			t.Fatal(from, e)
		}
		b, e := Write(l)
		if e != api.OK || len(b) < len(from) || len(b) > len(from)+4 {
			t.Fatal(from, b, e)
		}
		if n := len(from); slices.Compare(b[:n], from) > 0 {
			t.Fatal("there are smaller ones", from, b)
		}
		again, _ := Parse(b, api.MaxThreads)
		wantWrite(t, b, again...)
	}
}

// P4.4: the keys and values have the lengths that they may have, and no two keys are equal.
func TestKeysDiffer(t *testing.T) {
	seen := map[string]int{}
	for n := range 256 {
		k, v := Key(byte(n)), Value(byte(n))
		if other, is := seen[k]; is {
			t.Error(n, other, k)
		}
		seen[k] = n
		if len(k) < 1 || len(k) > api.MaxKey || len(v) > api.MaxValue {
			t.Error(n, k, v)
		}
	}
}

// P4.1, P4.2: arguments are not changed, results are new each time, and equal calls have equal results.
func TestResultsAreNew(t *testing.T) {
	b := []byte{8, 3, 5, 4, 1, 2, 3, 9}
	was := slices.Clone(b)
	l, _ := Parse(b, 3)
	l[0], l[1] = ticks(1), round(1)
	Next(b, 3)
	wantParse(t, b, 3, pick(1, 4), swapping(of(ask(0, api.VerbSwap, 0), Key(1)), Value(2), Value(3)), pick(1, 1))
	if !slices.Equal(b, was) {
		t.Error(b)
	}
	ops := []api.Op{pick(1, 4), ticks(9), of(ask(2, api.VerbGet, 0), "aa")}
	first, _ := Write(ops)
	want := slices.Clone(first)
	for i := range first {
		first[i] = 77
	}
	_ = append(first[:1], 78)
	wantWrite(t, want, ops...)
	if !slices.Equal(ops, []api.Op{pick(1, 4), ticks(9), of(ask(2, api.VerbGet, 0), "aa")}) {
		t.Error(ops)
	}
}

// P1: no call panics; with an error there is no other result, and what Valid says is what Write does.
func FuzzCalls(f *testing.F) {
	f.Add([]byte{}, 1, 0, 0, 0, 0, 0, "", "", "")
	f.Add([]byte{5, 41, 0, 2}, 4, 3, 0, 0, 2, 5, "aa", "cc", "")
	f.Add([]byte{255, 255, 255}, 64, 3, 31, 32, 6, 31, "ppxx", "", "")
	f.Add([]byte{6}, 65, 1, 31, 16, 0, 0, "", "", "")
	f.Add([]byte{4}, 0, -1, -1, -1, -1, -1, "a", "b", "b")
	f.Add([]byte{4}, -1<<63, 1<<62, 1<<62, 1<<62, 1<<62, 1<<62, "\xff", "\xff", "\x00")
	f.Add([]byte{4}, 1<<63-1, 3, -1<<63, -1<<63, -1<<63, -1<<63, "zz", "", "")
	f.Fuzz(func(t *testing.T, b []byte, threads, kind, thread, n, verb, after int, key, value, old string) {
		may := threads >= 1 && threads <= api.MaxThreads
		if may && len(b) <= MaxScript {
			wantRead(t, b, threads)
		}
		l, e := Parse(b, threads)
		if fine := may && len(b) <= MaxScript; fine != (e == api.OK) || (len(l) > 0) != (fine && len(b) > 0) {
			t.Fatal(len(b), threads, len(l), e)
		}
		first, many, e := Next(b, threads)
		if fine := may && len(b) > 0; fine != (e == api.OK) || fine != (many > 0) || many > len(b) || fine == (first == api.Op{}) {
			t.Fatal(b, threads, first, many, e)
		}
		o := api.Op{Kind: api.OpKind(kind), Thread: thread, N: n, Verb: api.Verb(verb), Key: key, Value: value, Old: old, Ticks: after}
		w, e := Write([]api.Op{o})
		if is := Valid(o); is != (e == api.OK) || is != (len(w) > 0) || !is && e != api.ErrArg {
			t.Fatal(o, is, w, e)
		}
		if e == api.OK {
			wantNext(t, w, api.MaxThreads, o, len(w))
		}
		Key(byte(n))
		Value(byte(n))
	})
}
