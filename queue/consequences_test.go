package queue

import (
	"cmp"
	"slices"
	"testing"

	"ticketline/api"
)

// numbers returns a function that returns numbers from 0 to below another one, the same ones each time.
func numbers(seed uint64) func(n int) int {
	return func(n int) int {
		seed = seed*6364136223846793005 + 1442695040888963407
		return int((seed >> 33) % uint64(n))
	}
}

// allPicked reports whether all are picked in each window of a size, as the chapter defines it: it looks through all windows.
func allPicked(l []int, threads, size int) bool {
	for from := 0; from+size <= len(l); from++ {
		for t := range threads {
			if !slices.Contains(l[from:from+size], t) {
				return false
			}
		}
	}
	return true
}

// wantWindows checks Window, Fair and Counts of a schedule: Fair is true from the least size on, and counts are together as many as there are picks.
func wantWindows(t *testing.T, l []int, threads int) {
	t.Helper()
	least, e := Window(l, threads)
	if least < 1 || least > len(l)+1 || e != api.OK {
		t.Fatal(l, threads, least, e)
	}
	for size := 1; size <= len(l)+2; size++ {
		is, e := Fair(l, threads, size)
		if is != allPicked(l, threads, size) || is != (size >= least) || e != api.OK {
			t.Fatal(l, threads, size, least, is, e)
		}
	}
	n, e := Counts(l, threads)
	sum := 0
	for _, many := range n {
		sum += many
	}
	if sum != len(l) || len(n) != threads || e != api.OK {
		t.Fatal(l, threads, n, e)
	}
}

// everyList calls a function with each list of so many picks of threads.
func everyList(threads, many int, do func(l []int)) {
	l := make([]int, many)
	for {
		do(l)
		i := 0
		for i < many && l[i] == threads-1 {
			l[i] = 0
			i++
		}
		if i == many {
			return
		}
		l[i]++
	}
}

// P3.2, P3.5: the windows and counts of all short schedules, and of some longer ones.
func TestWindowsOfAll(t *testing.T) {
	for threads := 1; threads <= 4; threads++ {
		for many := range 7 {
			everyList(threads, many, func(l []int) { wantWindows(t, l, threads) })
		}
	}
	next := numbers(3)
	for range 300 {
		threads := 1 + next(9)
		b := make([]byte, next(70))
		for i := range b {
			b[i] = byte(next(256))
		}
		l, e := From(b, threads)
		if e != api.OK || !Valid(l, threads) {
			t.Fatal(b, threads, e)
		}
		wantWindows(t, l, threads)
	}
}

// P3.1, P3.5: what Round returns is fair for windows of as many picks as there are threads, and no smaller ones.
func TestRoundIsFair(t *testing.T) {
	for threads := 1; threads <= api.MaxThreads; threads++ {
		l, e := Round(threads, 3*threads)
		if n, f := Window(l, threads); n != threads || e != api.OK || f != api.OK {
			t.Error(threads, n, e, f)
		}
	}
}

// plain is a picker as the chapter defines it: it has the picks that it has made, and looks through all of them each time.
type plain struct {
	threads, size int
	made          []int
}

// age returns the age of a thread.
func (p *plain) age(t int) int {
	for i := range p.made {
		if p.made[len(p.made)-1-i] == t {
			return i
		}
	}
	return len(p.made)
}

// next makes the pick in the place of a wanted one, and returns it.
func (p *plain) next(want int) int {
	l, _ := Round(p.threads, p.threads)
	slices.SortFunc(l, func(a, b int) int { return cmp.Or(cmp.Compare(p.age(b), p.age(a)), cmp.Compare(a, b)) })
	pick := want
	for i, t := range l {
		if p.age(t)+i >= p.size-1 {
			pick = l[0]
		}
	}
	p.made = append(p.made, pick)
	return pick
}

// P3.3, P3.4: a picker is the plain one, whatever is wanted; a copy goes on as both do.
func TestPickerIsPlain(t *testing.T) {
	next := numbers(8)
	for round := range 300 {
		threads := 1 + next(9)
		size := threads + next(3*threads)
		p, q := picker(t, threads, size), &plain{threads: threads, size: size}
		favourite := next(threads)
		for i := range 60 {
			want := favourite
			if next(4) == 0 {
				want = next(threads)
			}
			c := p.Copy()
			pick := q.next(want)
			for _, p := range []*Picker{p, c} {
				wantNext(t, p, want, pick)
				wantPicker(t, p, i+1, ages(q)...)
			}
			if t.Failed() {
				t.Fatal(round, threads, size, i, want, q.made)
			}
		}
	}
}

// ages returns the ages of all threads of a plain picker.
func ages(q *plain) []int {
	l := make([]int, q.threads)
	for t := range l {
		l[t] = q.age(t)
	}
	return l
}

// picks returns what a picker picks if a list is wanted.
func picks(t *testing.T, threads, size int, wanted []int) []int {
	t.Helper()
	p := picker(t, threads, size)
	made := make([]int, len(wanted))
	for i, want := range wanted {
		x, e := p.Next(want)
		if e != api.OK {
			t.Fatal(threads, size, wanted, i, e)
		}
		made[i] = x
	}
	return made
}

// P3.5: whatever is wanted, all are picked in each window of the size, by trying all that can be wanted; with the least size, the picks are those of Round.
func TestPickerIsFair(t *testing.T) {
	for threads := 1; threads <= 3; threads++ {
		for size := threads; size <= 7; size++ {
			everyList(threads, 8, func(wanted []int) {
				made := picks(t, threads, size, wanted)
				if !Valid(made, threads) || !allPicked(made, threads, size) {
					t.Fatal(threads, size, wanted, made)
				}
				if round, _ := Round(threads, len(made)); size == threads && !slices.Equal(made, round) {
					t.Fatal(threads, wanted, made)
				}
				if size > threads && made[0] != wanted[0] {
					t.Fatal("the first pick is not urgent", threads, size, wanted, made)
				}
			})
		}
	}
}

// P3.5: the same for many threads, and for windows that are just filled by whoever is wanted too often.
func TestManyAreFair(t *testing.T) {
	next := numbers(5)
	for threads := 1; threads <= api.MaxThreads; threads++ {
		for _, size := range []int{threads, threads + 1, threads + next(20), 2*threads + next(100)} {
			wanted := make([]int, 3*size+5)
			favourite := next(threads)
			for i := range wanted {
				wanted[i] = favourite
				if next(4) == 0 {
					wanted[i] = next(threads)
				}
			}
			made := picks(t, threads, size, wanted)
			if is, e := Fair(made, threads, size); !is || e != api.OK {
				t.Fatal(threads, size, wanted, made)
			}
			if round, _ := Round(threads, len(made)); size == threads && !slices.Equal(made, round) {
				t.Fatal(threads, wanted, made)
			}
			// if one is wanted always, the others come as late as the size allows
			if least, _ := Window(picks(t, threads, size, make([]int, 3*size)), threads); threads > 1 && least != size {
				t.Fatal("the others come too early", threads, size, least)
			}
		}
	}
}

// P1: no call panics; those that are not allowed return errors, and have no other result.
func FuzzCalls(f *testing.F) {
	f.Add([]byte{}, 1, 1, 0, 0)
	f.Add([]byte{0, 4, 5, 255}, 4, 5, 3, 4)
	f.Add([]byte{1, 2, 3}, 0, 0, -1, -1)
	f.Add([]byte{9, 9, 9, 9}, 64, MaxPicks, 64, MaxPicks+1)
	f.Add([]byte{7}, 65, MaxPicks+1, 1<<62, 1<<62)
	f.Add([]byte{7}, -1<<63, -1<<63, -1<<63, -1<<63)
	f.Fuzz(func(t *testing.T, b []byte, threads, size, want, many int) {
		may := threads >= 1 && threads <= api.MaxThreads
		l, e := From(b, threads)
		if fine := may && len(b) <= MaxPicks; fine != (e == api.OK) || fine && (len(l) != len(b) || !Valid(l, threads)) || !fine && len(l) != 0 {
			t.Fatal(len(b), threads, e)
		}
		round, e := Round(threads, many)
		if fine := may && many >= 0 && many <= MaxPicks; fine != (e == api.OK) || fine && len(round) != many || !fine && len(round) != 0 {
			t.Fatal(threads, many, e)
		}
		l = append(l, want)
		fine := may && len(l) <= MaxPicks && want >= 0 && want < threads
		if Valid(l, threads) != fine {
			t.Fatal(l, threads)
		}
		n, e := Counts(l, threads)
		least, f := Window(l, threads)
		is, g := Fair(l, threads, size)
		if fine != (e == api.OK) || e != f || fine != (len(n) > 0) || fine != (least > 0) || is != (fine && size >= least) || size >= 1 && g != e || size < 1 && g != api.ErrArg {
			t.Fatal(l, threads, size, e, f, g, least, is)
		}
		p, e := New(threads, size)
		if (p != nil) != (may && size >= threads && size <= MaxPicks) || (p != nil) != (e == api.OK) {
			t.Fatal(threads, size, e)
		}
		x, e := p.Next(want)
		if (e == api.OK) != (p != nil && fine) || e == api.OK && (p.Picks() != 1 || x < 0 || x >= threads) || e != api.OK && (x != 0 || p.Picks() != 0) {
			t.Fatal(threads, size, want, x, e)
		}
		if c := p.Copy(); (c != nil) != (p != nil) || c.Picks() != p.Picks() || c.Age(want) != p.Age(want) {
			t.Fatal(threads, size, want)
		}
	})
}
