package clock

import (
	"math"
	"slices"
	"testing"

	"ticketline/api"
)

// at returns a clock at a tick, with alarms.
func at(t *testing.T, now int, alarms ...api.Alarm) *Clock {
	t.Helper()
	c, e := New(now)
	if c == nil || e != api.OK {
		t.Fatal(now, e)
	}
	for _, a := range alarms {
		if e := c.Set(a.ID, a.At); e != api.OK {
			t.Fatal(a, e)
		}
	}
	return c
}

// full returns a clock at the tick 0 with as many alarms as it may have, at the ticks 1, 2 and so on, in the order of their IDs.
func full(t *testing.T) *Clock {
	t.Helper()
	c := at(t, 0)
	for id := range MaxAlarms {
		if e := c.Set(id, id+1); e != api.OK {
			t.Fatal(id, e)
		}
	}
	return c
}

// wantClock checks all that can be seen of a clock.
func wantClock(t *testing.T, c *Clock, now int, alarms ...api.Alarm) {
	t.Helper()
	next := Never
	if len(alarms) > 0 {
		next = alarms[0].At
	}
	if l := c.Alarms(); c.Now() != now || c.Next() != next || !slices.Equal(l, alarms) {
		t.Errorf("tick %v, next %v, alarms %v; want %v, %v, %v", c.Now(), c.Next(), l, now, next, alarms)
	}
}

// wantTick checks what Tick returns.
func wantTick(t *testing.T, c *Clock, n int, want ...api.Alarm) {
	t.Helper()
	if l, e := c.Tick(n); !slices.Equal(l, want) || e != api.OK {
		t.Errorf("Tick(%v): %v, %v; want %v", n, l, e, want)
	}
}

// noTicks returns numbers that are no ticks.
func noTicks() []int { return []int{-1, Never + 1, math.MinInt, -Never, math.MaxInt} }

// nones returns a nil and a zero clock.
func nones() []*Clock { return []*Clock{nil, {}} }

// P2.1, P2.3: the limits, as the chapter writes them.
func TestLimits(t *testing.T) {
	if Never != 4611686018427387904 || MaxAlarms != 4096 {
		t.Error(Never, MaxAlarms)
	}
}

// P2.1: Due; at most Never, however many ticks there are.
func TestDue(t *testing.T) {
	for _, c := range [][3]int{
		{0, 0, 0}, {5, 3, 8}, {5, 0, 5}, {0, 7, 7},
		{5, Never, Never}, {5, Never - 6, Never - 1}, {5, Never - 5, Never}, {5, Never - 4, Never},
		{Never - 1, 0, Never - 1}, {Never - 1, 1, Never}, {Never - 1, 2, Never}, {0, Never, Never}, {0, Never + 1, Never},
		{Never, 0, Never}, {Never, 1, Never}, {Never, Never, Never}, {Never, math.MaxInt, Never}, {0, math.MaxInt, Never},
	} {
		if d, e := Due(c[0], c[1]); d != c[2] || e != api.OK {
			t.Error(c, d, e)
		}
	}
}

// P2.1: Due of what is no tick, and of numbers of ticks below 0.
func TestDueErrors(t *testing.T) {
	for _, now := range noTicks() {
		for _, ticks := range []int{0, 3, -1, math.MaxInt, math.MinInt} {
			if d, e := Due(now, ticks); d != 0 || e != api.ErrArg {
				t.Error(now, ticks, d, e)
			}
		}
	}
	for _, now := range []int{0, 5, Never} {
		for _, ticks := range []int{-1, -5, math.MinInt} {
			if d, e := Due(now, ticks); d != 0 || e != api.ErrArg {
				t.Error(now, ticks, d, e)
			}
		}
	}
}

// P2.1: Passed, for any numbers.
func TestPassed(t *testing.T) {
	for _, c := range []struct {
		deadline, now int
		want          bool
	}{
		{5, 4, false}, {5, 5, false}, {5, 6, true}, {0, 0, false}, {0, 1, true},
		{Never - 1, Never - 1, false}, {Never - 1, Never, true}, {Never, Never, false}, {Never, Never + 1, false}, {Never, math.MaxInt, false},
		{Never + 1, math.MaxInt, false}, {-1, 0, true}, {-1, -1, false}, {math.MinInt, math.MaxInt, true}, {math.MaxInt, math.MinInt, false}, {0, -1, false},
	} {
		if is := Passed(c.deadline, c.now); is != c.want {
			t.Error(c, is)
		}
	}
}

// P2.2: New, at each kind of tick.
func TestNew(t *testing.T) {
	for _, now := range []int{0, 1, 10, Never - 1, Never} {
		wantClock(t, at(t, now), now)
	}
	for _, now := range noTicks() {
		if c, e := New(now); c != nil || e != api.ErrArg {
			t.Error(now, c, e)
		}
	}
}

// P2.2: a clock at the tick 0 is not zero.
func TestNewAtZero(t *testing.T) {
	c := at(t, 0)
	wantTick(t, c, 0)
	if e := c.Clear(0); e != api.ErrNone {
		t.Error(e)
	}
	if d := c.Copy(); d == nil {
		t.Error("no copy")
	}
	if e := c.Set(0, 0); e != api.OK {
		t.Error(e)
	}
	wantClock(t, c, 0, api.Alarm{})
}

// P2.1 to P2.4: the rows of the chapter's examples.
func TestExamples(t *testing.T) {
	c := at(t, 10)
	for i, x := range []struct {
		id, at int
		want   api.Errno
	}{{7, 12, api.OK}, {3, 12, api.OK}, {9, 4, api.OK}, {7, 1, api.ErrBusy}} {
		if e := c.Set(x.id, x.at); e != x.want {
			t.Error(i, e)
		}
	}
	wantClock(t, c, 10, api.Alarm{ID: 9, At: 4}, api.Alarm{ID: 3, At: 12}, api.Alarm{ID: 7, At: 12})
	wantTick(t, c, 0, api.Alarm{ID: 9, At: 4})
	wantClock(t, c, 10, api.Alarm{ID: 3, At: 12}, api.Alarm{ID: 7, At: 12})
	wantTick(t, c, 2, api.Alarm{ID: 3, At: 12}, api.Alarm{ID: 7, At: 12})
	wantClock(t, c, 12)
	if e := c.Clear(3); e != api.ErrNone {
		t.Error(e)
	}
	if l, e := c.Tick(-1); len(l) != 0 || e != api.ErrArg {
		t.Error(l, e)
	}
	wantClock(t, c, 12)
}

// P2.2: an alarm is due from its own tick on, and not before.
func TestTick(t *testing.T) {
	c := at(t, 10, api.Alarm{ID: 1, At: 12}, api.Alarm{ID: 2, At: 13}, api.Alarm{ID: 0, At: 13})
	wantTick(t, c, 1)
	wantClock(t, c, 11, api.Alarm{ID: 1, At: 12}, api.Alarm{ID: 0, At: 13}, api.Alarm{ID: 2, At: 13})
	wantTick(t, c, 1, api.Alarm{ID: 1, At: 12})
	wantClock(t, c, 12, api.Alarm{ID: 0, At: 13}, api.Alarm{ID: 2, At: 13})
	wantTick(t, c, 9, api.Alarm{ID: 0, At: 13}, api.Alarm{ID: 2, At: 13})
	wantClock(t, c, 21)
}

// P2.2: an alarm that is set at a tick that was before, or is now, is due when ticks pass, even none.
func TestTickOfThePast(t *testing.T) {
	c := at(t, 10, api.Alarm{ID: 4, At: 10}, api.Alarm{ID: 5, At: 0}, api.Alarm{ID: 6, At: 11})
	wantClock(t, c, 10, api.Alarm{ID: 5, At: 0}, api.Alarm{ID: 4, At: 10}, api.Alarm{ID: 6, At: 11})
	wantTick(t, c, 0, api.Alarm{ID: 5, At: 0}, api.Alarm{ID: 4, At: 10})
	wantClock(t, c, 10, api.Alarm{ID: 6, At: 11})
}

// P2.2: the tick becomes at most Never, and an alarm at Never is never due.
func TestTickToNever(t *testing.T) {
	for _, n := range []int{3, 4, Never, math.MaxInt} {
		c := at(t, Never-3, api.Alarm{ID: 8, At: Never}, api.Alarm{ID: math.MaxInt, At: Never - 1})
		wantTick(t, c, 1)
		wantTick(t, c, n, api.Alarm{ID: math.MaxInt, At: Never - 1})
		wantClock(t, c, Never, api.Alarm{ID: 8, At: Never})
		wantTick(t, c, n)
		wantClock(t, c, Never, api.Alarm{ID: 8, At: Never})
	}
}

// P2.2: a number of ticks below 0 changes nothing, even if alarms are due.
func TestTickErrors(t *testing.T) {
	c := at(t, 10, api.Alarm{ID: 1, At: 3})
	for _, n := range []int{-1, -10, math.MinInt} {
		if l, e := c.Tick(n); len(l) != 0 || e != api.ErrArg {
			t.Error(n, l, e)
		}
		wantClock(t, c, 10, api.Alarm{ID: 1, At: 3})
	}
}

// P2.3: Set and Clear, and the order of alarms, whatever the order is in which they are set.
func TestSetAndClear(t *testing.T) {
	c := at(t, 7, api.Alarm{ID: 5, At: 20}, api.Alarm{ID: 0, At: Never}, api.Alarm{ID: 9, At: 8}, api.Alarm{ID: 6, At: 20}, api.Alarm{ID: math.MaxInt, At: 0}, api.Alarm{ID: 4, At: 20})
	wantClock(t, c, 7, api.Alarm{ID: math.MaxInt, At: 0}, api.Alarm{ID: 9, At: 8}, api.Alarm{ID: 4, At: 20}, api.Alarm{ID: 5, At: 20}, api.Alarm{ID: 6, At: 20}, api.Alarm{ID: 0, At: Never})
	for _, id := range []int{5, math.MaxInt, 0} {
		if e := c.Clear(id); e != api.OK {
			t.Error(id, e)
		}
		if e := c.Clear(id); e != api.ErrNone {
			t.Error(id, e)
		}
	}
	wantClock(t, c, 7, api.Alarm{ID: 9, At: 8}, api.Alarm{ID: 4, At: 20}, api.Alarm{ID: 6, At: 20})
	wantTick(t, c, 1, api.Alarm{ID: 9, At: 8})
	for _, id := range []int{9, 5} { // nobody has their IDs any more
		if e := c.Set(id, 9); e != api.OK {
			t.Error(id, e)
		}
	}
	wantClock(t, c, 8, api.Alarm{ID: 5, At: 9}, api.Alarm{ID: 9, At: 9}, api.Alarm{ID: 4, At: 20}, api.Alarm{ID: 6, At: 20})
}

// P2.3: the errors of Set and Clear, in their order; none of them changes anything.
func TestSetAndClearErrors(t *testing.T) {
	alarms := []api.Alarm{{ID: 3, At: 5}, {ID: 0, At: 6}}
	c := at(t, 2, alarms...)
	for _, id := range []int{-1, math.MinInt} {
		for _, at := range append(noTicks(), 0, 5, Never) {
			if e := c.Set(id, at); e != api.ErrArg {
				t.Error(id, at, e)
			}
		}
		if e := c.Clear(id); e != api.ErrNone {
			t.Error(id, e)
		}
	}
	for _, at := range noTicks() {
		for _, id := range []int{0, 1, 3} {
			if e := c.Set(id, at); e != api.ErrArg {
				t.Error(id, at, e)
			}
		}
	}
	for _, at := range []int{0, 5, 6, Never} {
		for _, id := range []int{0, 3} {
			if e := c.Set(id, at); e != api.ErrBusy {
				t.Error(id, at, e)
			}
		}
	}
	for _, id := range []int{1, 2, 4, math.MaxInt} {
		if e := c.Clear(id); e != api.ErrNone {
			t.Error(id, e)
		}
	}
	wantClock(t, c, 2, alarms...)
}

// P2.3: at most MaxAlarms alarms; ErrFull comes after all other errors, and there is room again when one is taken away.
func TestFull(t *testing.T) {
	c := full(t)
	was := c.Alarms()
	for _, x := range []struct {
		id, at int
		want   api.Errno
	}{{MaxAlarms, 1, api.ErrFull}, {math.MaxInt, Never, api.ErrFull}, {-1, 1, api.ErrArg}, {MaxAlarms, -1, api.ErrArg}, {7, 1, api.ErrBusy}} {
		if e := c.Set(x.id, x.at); e != x.want {
			t.Error(x, e)
		}
	}
	wantClock(t, c, 0, was...)
	if e := c.Clear(MaxAlarms); e != api.ErrNone {
		t.Error(e)
	}
	if e := c.Clear(100); e != api.OK {
		t.Error(e)
	}
	if e := c.Set(MaxAlarms, 0); e != api.OK {
		t.Error(e)
	}
	if e := c.Set(100, 0); e != api.ErrFull {
		t.Error(e)
	}
	wantTick(t, c, 1, api.Alarm{ID: MaxAlarms, At: 0}, was[0])
	for _, id := range []int{0, MaxAlarms} {
		if e := c.Set(id, 1); e != api.OK {
			t.Error(id, e)
		}
	}
	if e := c.Set(100, 1); e != api.ErrFull {
		t.Error(e)
	}
}

// P2.4: what Alarms and Tick return shares nothing with the clock, or with each other.
func TestAlarmsAreACopy(t *testing.T) {
	alarms := []api.Alarm{{ID: 1, At: 1}, {ID: 2, At: 2}, {ID: 3, At: 3}, {ID: 4, At: 4}}
	c := at(t, 0, alarms...)
	l := c.Alarms()
	l[0], l[3] = api.Alarm{ID: 9, At: 9}, api.Alarm{ID: 9, At: 9}
	_ = append(l[:1], api.Alarm{ID: 9, At: 9})
	wantClock(t, c, 0, alarms...)
	due, _ := c.Tick(2)
	_ = append(due, api.Alarm{ID: 9, At: 9})
	due[1].At = 9
	wantClock(t, c, 2, alarms[2:]...)
	rest := c.Alarms()
	wantTick(t, c, 1, alarms[2])
	c.Set(7, 0)
	if !slices.Equal(rest, alarms[2:]) || due[0] != alarms[0] {
		t.Error(rest, due)
	}
}

// P2.4: a copy goes on independently, and so does what was copied.
func TestCopy(t *testing.T) {
	alarms := []api.Alarm{{ID: 1, At: 11}, {ID: 2, At: 12}, {ID: 3, At: 13}}
	c := at(t, 10, alarms...)
	d := c.Copy()
	if d == c {
		t.Fatal("the same clock")
	}
	wantClock(t, d, 10, alarms...)
	wantTick(t, c, 1, alarms[0])
	c.Set(1, 20)
	wantClock(t, d, 10, alarms...)
	d.Clear(2)
	d.Set(8, 11)
	wantClock(t, c, 11, alarms[1], alarms[2], api.Alarm{ID: 1, At: 20})
	wantTick(t, d, 1, alarms[0], api.Alarm{ID: 8, At: 11})
	wantClock(t, d, 11, alarms[2])
	wantClock(t, c, 11, alarms[1], alarms[2], api.Alarm{ID: 1, At: 20})
}

// P2.2, P2.3, P2.4: nil and zero clocks; ErrNil comes before all other errors.
func TestNoClock(t *testing.T) {
	for i, c := range nones() {
		for _, n := range []int{0, 1, -1, Never, math.MaxInt, math.MinInt} {
			if l, e := c.Tick(n); len(l) != 0 || e != api.ErrNil {
				t.Error(i, n, l, e)
			}
			if e := c.Set(n, n); e != api.ErrNil {
				t.Error(i, n, e)
			}
			if e := c.Clear(n); e != api.ErrNil {
				t.Error(i, n, e)
			}
		}
		if c.Now() != 0 || c.Next() != 0 || len(c.Alarms()) != 0 || c.Copy() != nil {
			t.Error(i, c.Now(), c.Next(), c.Alarms(), c.Copy())
		}
	}
}
