package queue

import (
	"math"
	"testing"

	"ticketline/api"
)

// picker returns a picker of so many threads, with a size.
func picker(t *testing.T, threads, size int) *Picker {
	t.Helper()
	p, e := New(threads, size)
	if p == nil || e != api.OK {
		t.Fatal(threads, size, e)
	}
	return p
}

// wantNext checks what is picked in the place of a wanted one.
func wantNext(t *testing.T, p *Picker, want, pick int) {
	t.Helper()
	if x, e := p.Next(want); x != pick || e != api.OK {
		t.Errorf("Next(%v): %v, error %v; want %v", want, x, e, pick)
	}
}

// wantPicker checks all that can be seen of a picker: how many picks were made, and the ages of its threads.
func wantPicker(t *testing.T, p *Picker, picks int, ages ...int) {
	t.Helper()
	if p.Picks() != picks {
		t.Errorf("%v picks, want %v", p.Picks(), picks)
	}
	for x, age := range ages {
		if p.Age(x) != age {
			t.Errorf("the age of %v is %v, want %v", x, p.Age(x), age)
		}
	}
	for _, x := range []int{-1, len(ages), len(ages) + 1, math.MinInt, math.MaxInt} {
		if p.Age(x) != 0 {
			t.Errorf("the age of %v, which is no thread, is %v", x, p.Age(x))
		}
	}
}

// P3.3: New, with the least and the greatest numbers that it allows.
func TestNew(t *testing.T) {
	for _, c := range [][2]int{{1, 1}, {1, MaxPicks}, {2, 2}, {2, 3}, {63, 64}, {64, 64}, {64, MaxPicks}} {
		p := picker(t, c[0], c[1])
		wantPicker(t, p, 0, make([]int, c[0])...)
		wantNext(t, p, 0, 0)
	}
}

// P3.3: what New does not allow.
func TestNewErrors(t *testing.T) {
	cases := [][2]int{{1, 0}, {2, 1}, {64, 63}, {3, -1}, {3, 0}, {3, math.MinInt}, {1, MaxPicks + 1}, {64, MaxPicks + 1}, {2, math.MaxInt}}
	for _, threads := range noCounts() {
		cases = append(cases, [][2]int{{threads, threads}, {threads, 0}, {threads, 1}, {threads, 64}, {threads, 100}, {threads, MaxPicks}, {threads, MaxPicks + 1}}...)
	}
	for _, c := range cases {
		if p, e := New(c[0], c[1]); p != nil || e != api.ErrArg {
			t.Error(c, p, e)
		}
	}
}

// P3.3, P3.4: the examples of the chapter.
func TestNextExamples(t *testing.T) {
	p := picker(t, 2, 3)
	wantNext(t, p, 0, 0)
	wantNext(t, p, 0, 0)
	wantNext(t, p, 0, 1)
	wantPicker(t, p, 3, 1, 0)
	wantNext(t, p, 1, 1)
	wantPicker(t, p, 4, 2, 0)
	q := picker(t, 3, 3)
	for _, x := range []int{0, 1, 2, 0} {
		wantNext(t, q, 2, x)
	}
}

// P3.3: a pick is urgent as late as the size allows, and then who was picked longest ago comes first, and of those that never were the one with the least number.
func TestNextUrgent(t *testing.T) {
	p := picker(t, 4, 6)
	for _, x := range []int{3, 3, 3, 0, 1, 2, 3, 3, 3} {
		wantNext(t, p, 3, x)
	}
	wantPicker(t, p, 9, 5, 4, 3, 0)
	wantNext(t, p, 1, 0) // the age of 0 would be too great
	wantNext(t, p, 3, 1) // and now that of 1
	wantNext(t, p, 0, 2)
	wantNext(t, p, 0, 0) // 3, which was picked longest ago, may still wait
	wantPicker(t, p, 13, 0, 2, 1, 4)
	// it is not only the first one in the order that makes a pick urgent
	q := picker(t, 3, 4)
	for _, c := range [][2]int{{2, 2}, {2, 2}, {2, 0}, {2, 1}, {1, 1}, {1, 2}, {1, 0}} {
		wantNext(t, q, c[0], c[1])
	}
}

// P3.3: while no pick is urgent, the wanted one is picked.
func TestNextWanted(t *testing.T) {
	p := picker(t, 64, MaxPicks)
	for i := range MaxPicks - 63 {
		if x, e := p.Next(7); x != 7 || e != api.OK {
			t.Fatal(i, x, e)
		}
	}
	// then each of the others, in order, as late as the first window allows it
	for x := range 64 {
		if x != 7 {
			wantNext(t, p, 7, x)
		}
	}
	wantNext(t, p, 7, 7)
	wantNext(t, p, 63, 63)
	one := picker(t, 1, 1)
	for range 5 {
		wantNext(t, one, 0, 0)
	}
	wantPicker(t, one, 5, 0)
}

// P3.3: there may be more picks than a schedule has.
func TestNextMany(t *testing.T) {
	p := picker(t, 2, 2)
	for i := range 2*MaxPicks + 2 {
		if x, e := p.Next(1); x != i%2 || e != api.OK {
			t.Fatal(i, x, e)
		}
	}
	wantPicker(t, p, 2*MaxPicks+2, 1, 0)
}

// P3.3: what is no thread is refused, even if a pick is urgent, and changes nothing.
func TestNextErrors(t *testing.T) {
	for _, size := range []int{3, 4, 5, 100} {
		p := picker(t, 3, size)
		for range 3 {
			was := p.Copy()
			for _, want := range []int{-1, 3, 4, 64, math.MinInt, math.MaxInt} {
				if x, e := p.Next(want); x != 0 || e != api.ErrArg {
					t.Error(size, want, x, e)
				}
			}
			wantPicker(t, p, was.Picks(), was.Age(0), was.Age(1), was.Age(2))
			x, _ := was.Next(2)
			wantNext(t, p, 2, x)
		}
	}
}

// P3.4: Age counts from the beginning for who was never picked; Picks and Age change nothing.
func TestAge(t *testing.T) {
	p := picker(t, 3, 100)
	wantPicker(t, p, 0, 0, 0, 0)
	wantNext(t, p, 2, 2)
	wantPicker(t, p, 1, 1, 1, 0)
	wantNext(t, p, 2, 2)
	wantPicker(t, p, 2, 2, 2, 0)
	wantNext(t, p, 0, 0)
	wantPicker(t, p, 3, 0, 3, 1)
	wantPicker(t, p, 3, 0, 3, 1)
	wantNext(t, p, 1, 1)
	wantPicker(t, p, 4, 1, 0, 2)
}

// P3.4: a copy has the same size, and goes on independently, and so does what was copied.
func TestCopy(t *testing.T) {
	p := picker(t, 3, 5)
	for _, x := range []int{0, 0, 0, 1} {
		wantNext(t, p, 0, x)
	}
	c := p.Copy()
	if c == nil || c == p {
		t.Fatal("no picker, or the same one")
	}
	wantPicker(t, c, 4, 1, 0, 4)
	wantNext(t, p, 0, 2)
	wantNext(t, p, 0, 0)
	wantPicker(t, c, 4, 1, 0, 4)
	for _, x := range []int{2, 1, 1, 0} {
		wantNext(t, c, 1, x)
	}
	wantPicker(t, p, 6, 0, 2, 1)
	wantPicker(t, c, 8, 0, 1, 3)
}

// P3.3, P3.4: nil and zero pickers; ErrNil comes before all other errors.
func TestNoPicker(t *testing.T) {
	for i, p := range []*Picker{nil, {}} {
		for _, x := range []int{0, 1, 63, 64, -1, math.MinInt, math.MaxInt} {
			if pick, e := p.Next(x); pick != 0 || e != api.ErrNil {
				t.Error(i, x, pick, e)
			}
			if p.Age(x) != 0 {
				t.Error(i, x, p.Age(x))
			}
		}
		if p.Picks() != 0 || p.Copy() != nil {
			t.Error(i, p.Picks(), p.Copy())
		}
	}
}
