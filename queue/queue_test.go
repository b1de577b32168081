package queue

import (
	"math"
	"slices"
	"testing"

	"ticketline/api"
)

// noCounts returns numbers that no schedule has of threads.
func noCounts() []int { return []int{0, -1, api.MaxThreads + 1, math.MinInt, math.MaxInt} }

// long returns one pick more than a schedule may have, and the last one of it is what is said.
func long(last int) []int {
	l := make([]int, MaxPicks+1)
	l[MaxPicks] = last
	return l
}

// wantList checks a list and an error that a function has returned; with an error, the list is none.
func wantList(t *testing.T, what any, l []int, e api.Errno, want []int, wantE api.Errno) {
	t.Helper()
	if !slices.Equal(l, want) || e != wantE {
		t.Errorf("%v: %v, error %v; want %v, error %v", what, l, e, want, wantE)
	}
}

// P3.1, P3.3: the limits, as the chapter writes them.
func TestLimits(t *testing.T) {
	if MaxPicks != 100000 || api.MaxThreads != 64 {
		t.Error(MaxPicks, api.MaxThreads)
	}
}

// P3.1: Valid, for any list and number.
func TestValid(t *testing.T) {
	most := long(0)[:MaxPicks]
	for i, c := range []struct {
		l       []int
		threads int
		want    bool
	}{
		{[]int{0, 2, 1}, 3, true}, {[]int{0, 3}, 3, false}, {[]int{3, 0}, 3, false}, {[]int{0, -1}, 3, false}, {[]int{math.MinInt}, 3, false}, {[]int{math.MaxInt}, 3, false},
		{nil, 1, true}, {[]int{}, 64, true}, {[]int{0}, 1, true}, {[]int{1}, 1, false}, {[]int{63, 0, 63}, 64, true}, {[]int{64}, 64, false},
		{most, 1, true}, {most, 64, true}, {long(0), 1, false}, {long(0), 64, false},
	} {
		if is := Valid(c.l, c.threads); is != c.want {
			t.Error(i, c.threads, is)
		}
	}
	for _, threads := range noCounts() {
		for _, l := range [][]int{nil, {}, {0}, {-1}, {64}, long(0)} {
			if Valid(l, threads) {
				t.Error(threads, len(l))
			}
		}
	}
	most[MaxPicks-1] = 1
	if Valid(most, 1) || !Valid(most, 2) {
		t.Error("the last pick of a schedule that is as long as it may be")
	}
}

// P3.1: Round.
func TestRound(t *testing.T) {
	for _, c := range []struct {
		threads, many int
		want          []int
	}{{3, 5, []int{0, 1, 2, 0, 1}}, {3, 3, []int{0, 1, 2}}, {3, 1, []int{0}}, {3, 0, nil}, {1, 4, []int{0, 0, 0, 0}}, {64, 3, []int{0, 1, 2}}, {2, 4, []int{0, 1, 0, 1}}} {
		l, e := Round(c.threads, c.many)
		wantList(t, c, l, e, c.want, api.OK)
	}
	for _, threads := range []int{1, 2, 7, 63, 64} {
		l, e := Round(threads, MaxPicks)
		if len(l) != MaxPicks || e != api.OK {
			t.Fatal(threads, len(l), e)
		}
		for i, x := range l {
			if x != i%threads {
				t.Fatal(threads, i, x)
			}
		}
	}
}

// P3.1: the errors of Round, in their order.
func TestRoundErrors(t *testing.T) {
	for _, many := range []int{0, 1, -1, MaxPicks, MaxPicks + 1, math.MaxInt, math.MinInt} {
		for _, threads := range noCounts() {
			l, e := Round(threads, many)
			wantList(t, []int{threads, many}, l, e, nil, api.ErrArg)
		}
	}
	for _, threads := range []int{1, 64} {
		for _, many := range []int{-1, math.MinInt} {
			l, e := Round(threads, many)
			wantList(t, []int{threads, many}, l, e, nil, api.ErrArg)
		}
		for _, many := range []int{MaxPicks + 1, math.MaxInt} {
			l, e := Round(threads, many)
			wantList(t, []int{threads, many}, l, e, nil, api.ErrLong)
		}
	}
}

// P3.1: From, for all bytes and numbers of threads, and for as many bytes as there may be.
func TestFrom(t *testing.T) {
	l, e := From([]byte{0, 4, 5, 255}, 4)
	wantList(t, "example", l, e, []int{0, 0, 1, 3}, api.OK)
	l, e = From(nil, 64)
	wantList(t, "nil", l, e, nil, api.OK)
	all := make([]byte, 256)
	for i := range all {
		all[i] = byte(i)
	}
	for threads := 1; threads <= api.MaxThreads; threads++ {
		l, e := From(all, threads)
		if len(l) != len(all) || e != api.OK {
			t.Fatal(threads, len(l), e)
		}
		for i, x := range l {
			if x < 0 || x >= threads || (i-x)%threads != 0 {
				t.Fatal(threads, i, x)
			}
		}
	}
	if l, e := From(make([]byte, MaxPicks), 3); len(l) != MaxPicks || e != api.OK {
		t.Error(len(l), e)
	}
}

// P3.1: the errors of From, in their order.
func TestFromErrors(t *testing.T) {
	for _, b := range [][]byte{nil, {}, {1, 2}, make([]byte, MaxPicks+1)} {
		for _, threads := range noCounts() {
			l, e := From(b, threads)
			wantList(t, threads, l, e, nil, api.ErrArg)
		}
	}
	for _, threads := range []int{1, 64} {
		l, e := From(make([]byte, MaxPicks+1), threads)
		wantList(t, threads, l, e, nil, api.ErrLong)
	}
}

// P3.2: Counts has a place for each thread, also for those that are not picked.
func TestCounts(t *testing.T) {
	for _, c := range []struct {
		l       []int
		threads int
		want    []int
	}{{[]int{0, 2, 0}, 3, []int{2, 0, 1}}, {nil, 1, []int{0}}, {nil, 3, []int{0, 0, 0}}, {[]int{}, 64, make([]int, 64)}, {[]int{0, 0}, 1, []int{2}}, {[]int{1, 1, 0}, 2, []int{1, 2}}, {long(0)[:MaxPicks], 2, []int{MaxPicks, 0}}} {
		l, e := Counts(c.l, c.threads)
		wantList(t, c.want, l, e, c.want, api.OK)
	}
}

// P3.2: Window, and with it Fair, for the schedules of the chapter and those where it is an end, or a gap, that counts.
func TestWindow(t *testing.T) {
	for i, c := range []struct {
		l             []int
		threads, want int
	}{
		{[]int{0, 1, 0, 1}, 2, 2}, {[]int{0, 0, 1, 1, 0}, 2, 3}, {[]int{0, 0}, 2, 3}, {nil, 1, 1}, {[]int{0, 0}, 1, 1},
		{nil, 64, 1}, {[]int{0}, 1, 1}, {[]int{0}, 64, 2}, {[]int{0, 1}, 3, 3},
		{[]int{0, 0, 0, 1, 0}, 2, 4}, {[]int{0, 1, 0, 0, 0}, 2, 4}, {[]int{1, 0, 0, 0, 1}, 2, 4}, {[]int{1, 0, 0, 0, 0}, 2, 5},
		{[]int{0, 1, 2}, 3, 3}, {[]int{0, 1, 2, 2, 1, 0}, 3, 5}, {[]int{0, 1, 2, 1, 0, 1, 2}, 3, 4},
		{long(0)[:MaxPicks], 1, 1}, {long(0)[:MaxPicks], 2, MaxPicks + 1},
	} {
		if n, e := Window(c.l, c.threads); n != c.want || e != api.OK {
			t.Error(i, n, e)
		}
		for _, size := range []int{1, c.want - 1, c.want, c.want + 1, math.MaxInt} {
			if size < 1 {
				continue
			}
			if is, e := Fair(c.l, c.threads, size); is != (size >= c.want) || e != api.OK {
				t.Error(i, size, is, e)
			}
		}
	}
}

// P3.2: Fair, for the examples of the chapter.
func TestFair(t *testing.T) {
	for i, c := range []struct {
		l             []int
		threads, size int
		want          bool
		e             api.Errno
	}{{[]int{0, 0, 1, 1, 0}, 2, 3, true, 0}, {[]int{0, 0, 1, 1, 0}, 2, 2, false, 0}, {[]int{0, 0}, 2, 9, true, 0}, {nil, 2, 0, false, api.ErrArg}} {
		if is, e := Fair(c.l, c.threads, c.size); is != c.want || e != c.e {
			t.Error(i, is, e)
		}
	}
}

// wantError checks that Counts, Window and Fair, of a size that may be, return an error.
func wantError(t *testing.T, l []int, threads int, want api.Errno) {
	t.Helper()
	n, e := Counts(l, threads)
	wantList(t, threads, n, e, nil, want)
	if w, e := Window(l, threads); w != 0 || e != want {
		t.Error(threads, w, e)
	}
	for _, size := range []int{1, 5, math.MaxInt} {
		if is, e := Fair(l, threads, size); is || e != want {
			t.Error(threads, size, is, e)
		}
	}
}

// P3.2: the errors of Counts, Window and Fair, in their order.
func TestScheduleErrors(t *testing.T) {
	for _, threads := range noCounts() {
		for _, l := range [][]int{nil, {0}, {-1}, long(0), long(-1)} {
			wantError(t, l, threads, api.ErrArg)
		}
	}
	for _, threads := range []int{1, 64} {
		for _, last := range []int{0, -1, threads} {
			wantError(t, long(last), threads, api.ErrLong)
		}
		for _, l := range [][]int{{-1}, {threads}, {0, 0, threads}, {0, 0, math.MinInt}, {math.MaxInt, 0}, long(threads)[1:]} {
			wantError(t, l, threads, api.ErrArg)
		}
	}
	// a size that may not be comes before too many picks
	for _, size := range []int{0, -1, math.MinInt} {
		for _, l := range [][]int{nil, {0}, {-1}, long(0), long(-1)} {
			if is, e := Fair(l, 2, size); is || e != api.ErrArg {
				t.Error(size, len(l), is, e)
			}
		}
	}
}

// P3.1, P3.2: lists that are given are not changed, and results share nothing with each other.
func TestListsAreNew(t *testing.T) {
	l, b := []int{0, 2, 0, 1}, []byte{7, 8, 9}
	Valid(l, 3)
	Window(l, 3)
	Fair(l, 3, 2)
	first, _ := Counts(l, 3)
	first[0] = 9
	second, e := Counts(l, 3)
	wantList(t, "Counts", second, e, []int{2, 1, 1}, api.OK)
	wantList(t, "argument", l, api.OK, []int{0, 2, 0, 1}, api.OK)
	first, _ = From(b, 5)
	first[0] = 9
	second, e = From(b, 5)
	wantList(t, "From", second, e, []int{2, 3, 4}, api.OK)
	if !slices.Equal(b, []byte{7, 8, 9}) {
		t.Error(b)
	}
	first, _ = Round(2, 3)
	first[0] = 9
	second, e = Round(2, 3)
	wantList(t, "Round", second, e, []int{0, 1, 0}, api.OK)
}
