package clock

import (
	"cmp"
	"slices"
	"testing"

	"ticketline/api"
)

// plain is a clock as the chapter defines it: it has its alarms in no order, and looks through all of them each time.
type plain struct {
	now    int
	alarms map[int]int
}

// all returns the alarms that are due, or those that are not, in order.
func (p *plain) all(due bool) []api.Alarm {
	var l []api.Alarm
	for id, at := range p.alarms {
		if due == (at <= p.now && at < Never) {
			l = append(l, api.Alarm{ID: id, At: at})
		}
	}
	slices.SortFunc(l, func(a, b api.Alarm) int { return cmp.Or(cmp.Compare(a.At, b.At), cmp.Compare(a.ID, b.ID)) })
	return l
}

// tick lets ticks pass, of which there are not too many for an int.
func (p *plain) tick(n int) []api.Alarm {
	p.now = min(p.now+n, Never)
	l := p.all(true)
	for _, a := range l {
		delete(p.alarms, a.ID)
	}
	return l
}

// numbers returns a function that returns numbers from 0 to below another one, the same ones each time.
func numbers(seed uint64) func(n int) int {
	return func(n int) int {
		seed = seed*6364136223846793005 + 1442695040888963407
		return int((seed >> 33) % uint64(n))
	}
}

// set sets an alarm with a small ID near the tick, if there is none with it; now and then one that is never due.
func set(c *Clock, next func(int) int) (a api.Alarm, e api.Errno) {
	a = api.Alarm{ID: next(40), At: min(max(c.Now()+next(30)-5, 0), Never)}
	if next(10) == 0 {
		a.At = Never
	}
	return a, c.Set(a.ID, a.At)
}

// P2.2, P2.3, P2.5: a clock is the plain one; its tick never becomes smaller, what Tick returns was set and is due, and what stays is not.
func TestClockIsPlain(t *testing.T) {
	for _, start := range []int{0, 1000, Never - 900} {
		next := numbers(uint64(start) + 1)
		c, p := at(t, start), &plain{now: start, alarms: map[int]int{}}
		for i := range 3000 {
			before := c.Now()
			switch next(4) {
			case 0, 1:
				a, e := set(c, next)
				if _, there := p.alarms[a.ID]; there != (e == api.ErrBusy) || !there && e != api.OK {
					t.Fatal(i, a, e)
				}
				if e == api.OK {
					p.alarms[a.ID] = a.At
				}
			case 2:
				id := next(40)
				if _, there := p.alarms[id]; there != (c.Clear(id) == api.OK) {
					t.Fatal(i, id, there)
				}
				delete(p.alarms, id)
			case 3:
				n := next(4)
				wantTick(t, c, n, p.tick(n)...)
				wantClock(t, c, p.now, p.all(false)...)
			}
			if c.Now() != p.now || c.Now() < before || len(c.Alarms()) != len(p.alarms) || t.Failed() {
				t.Fatal(i, before, c.Now(), p.now, c.Alarms(), p.alarms)
			}
		}
		if start > 1000 && c.Now() != Never {
			t.Error("the tick has not become Never", c.Now())
		}
	}
}

// P2.5: ticks that pass one after the other give the same alarms, in the same order, as all of them at once.
func TestTicksAtOnce(t *testing.T) {
	for seed := range 200 {
		next := numbers(uint64(seed))
		c := at(t, []int{0, 3, 700, Never - 20}[next(4)])
		for range 30 {
			set(c, next)
		}
		once, byParts := c.Copy(), c.Copy()
		var l []api.Alarm
		sum := 0
		for range 6 {
			n := next(7)
			part, e := byParts.Tick(n)
			if e != api.OK {
				t.Fatal(seed, n, e)
			}
			l = append(l, part...)
			sum += n
		}
		wantTick(t, once, sum, l...)
		wantClock(t, once, byParts.Now(), byParts.Alarms()...)
		if t.Failed() {
			t.Fatal(seed)
		}
	}
}

// P1: no call panics; those that the clock does not allow return errors and change nothing.
func FuzzCalls(f *testing.F) {
	f.Add(0, 0, 0, 0, 0)
	f.Add(10, 7, 12, 3, 2)
	f.Add(-1, -1, -1, -1, -1)
	f.Add(Never, 0, Never, 0, Never)
	f.Add(Never-1, 5, Never-1, 5, 1<<63-1)
	f.Add(Never+1, -1<<63, -1<<63, -1<<63, -1<<63)
	f.Fuzz(func(t *testing.T, now, id, tick, other, n int) {
		c, e := New(now)
		if fine := now >= 0 && now <= Never; fine != (c != nil) || fine != (e == api.OK) {
			t.Fatal(now, e)
		}
		if e := c.Set(id, tick); (e == api.OK) != (c != nil && id >= 0 && tick >= 0 && tick <= Never) {
			t.Fatal(now, id, tick, e)
		}
		was := c.Alarms()
		if e := c.Clear(other); e == api.OK && (len(was) != 1 || other != id) || e != api.OK && !slices.Equal(c.Alarms(), was) {
			t.Fatal(id, other, e)
		}
		c.Set(other, tick)
		was = c.Alarms()
		l, e := c.Tick(n)
		d, f := Due(now, n)
		if c != nil && e != f || e == api.OK && c.Now() != d || e != api.OK && len(l) != 0 {
			t.Fatal(now, n, l, e, d, f)
		}
		if !slices.Equal(slices.Concat(l, c.Alarms()), was) {
			t.Fatal(l, c.Alarms(), was)
		}
		for _, a := range l {
			if a.At != d && !Passed(a.At, d) || a.At == Never {
				t.Fatal(a, d)
			}
		}
		for _, a := range c.Copy().Alarms() {
			if e == api.OK && a.At <= d && a.At != Never || a.At < c.Next() {
				t.Fatal(a, d, c.Next())
			}
		}
	})
}
