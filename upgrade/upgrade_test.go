package upgrade

import (
	"math"
	"reflect"
	"strconv"
	"strings"
	"testing"

	"ticketline/api"
	"ticketline/latch"
	"ticketline/mem"
	"ticketline/qnode"
)

// The modes, shorter.
const (
	s = api.ModeShared
	u = api.ModeUpdate
	x = api.ModeExclusive
)

// ground is an arena with the nodes of some threads from the word 4 on, and a latch at the word 0; the word 3 and those behind the nodes are for others.
type ground struct {
	*testing.T
	m *mem.Mem
	n *qnode.Nodes
}

// made returns the ground of so many threads.
func made(t *testing.T, threads int) ground {
	t.Helper()
	n, e := qnode.New(4, threads)
	if n == nil || e != api.OK {
		t.Fatal(e)
	}
	m, e := mem.New(4 + n.Len() + latch.Words)
	if m == nil || e != api.OK {
		t.Fatal(e)
	}
	return ground{t, m, n}
}

// copied returns a ground that goes on independently.
func (g ground) copied() ground {
	g.m = g.m.Copy()
	return g
}

// other returns where another latch is, behind the nodes.
func (g ground) other() int { return 4 + g.n.Len() }

// acquire returns the move by which a thread gets a latch.
func (g ground) acquire(at, thread int, mode api.Mode) *latch.Move {
	g.Helper()
	return g.move(latch.NewAcquire(g.n, at, thread, mode))
}

// release returns the move by which a thread gives a latch back.
func (g ground) release(at, thread int) *latch.Move {
	g.Helper()
	return g.move(latch.NewRelease(g.n, at, thread))
}

func (g ground) move(p *latch.Move, e api.Errno) *latch.Move {
	g.Helper()
	if p == nil || e != api.OK || p.Done() || p.Result() != 0 {
		g.Fatal(p, e)
	}
	return p
}

// decide returns a decision of a thread for the latch at the word 0.
func (g ground) decide(thread int, look, change api.Program) *Decide {
	g.Helper()
	d, e := NewDecide(g.n, 0, thread, look, change)
	if d == nil || e != api.OK || d.Done() || d.Result() != 0 {
		g.Fatal(d, e)
	}
	return d
}

// step makes a step that has no error, and makes at most one access; it returns whether it has waited, and the access.
func (g ground) step(p api.Program) (bool, api.Access) {
	g.Helper()
	o, e := mem.NewOnce(g.m)
	if e != api.OK || p.Done() || p.Result() != 0 {
		g.Fatal(e, p.Done(), p.Result())
	}
	waits, e := p.Step(o)
	if e != api.OK || !p.Done() && p.Result() != 0 {
		g.Fatal(waits, e, p.Result())
	}
	return waits, o.Access()
}

// ends runs a program to its end, without waiting, and returns the accesses of its steps.
func (g ground) ends(p api.Program, result uint64) (l []api.Access) {
	g.Helper()
	for !p.Done() {
		waits, a := g.step(p)
		if l = append(l, a); waits || len(l) > 1000 {
			g.Fatal(len(l), waits)
		}
	}
	if p.Result() != result {
		g.Error("the result is", p.Result(), "and not", result)
	}
	return l
}

// looks returns the state of a latch.
func (g ground) looks(at int) api.Latch {
	g.Helper()
	l, e := latch.Look(g.m, g.n, at)
	if e != api.OK {
		g.Fatal(e)
	}
	return l
}

// wantLatch checks who holds a latch, and who waits.
func (g ground) wantLatch(at int, want api.Latch) {
	g.Helper()
	if l := g.looks(at); dump(l) != dump(want) {
		g.Error(l, "and not", want)
	}
}

// nobody is the state of a latch that nobody holds.
func nobody() api.Latch { return api.Latch{Update: -1, Exclusive: -1, Wants: -1} }

// dump writes all that a value has, exported or not, so that values can be compared.
func dump(v any) string {
	var b strings.Builder
	write(&b, reflect.ValueOf(v))
	return b.String()
}

func write(b *strings.Builder, v reflect.Value) {
	switch v.Kind() {
	case reflect.Pointer, reflect.Interface:
		if v.IsNil() {
			b.WriteString("nil ")
			return
		}
		b.WriteString(v.Elem().Type().Name() + " ")
		write(b, v.Elem())
	case reflect.Struct:
		for i := range v.NumField() {
			write(b, v.Field(i))
		}
	case reflect.Slice, reflect.Array:
		b.WriteString(strconv.Itoa(v.Len()) + ": ")
		for i := range v.Len() {
			write(b, v.Index(i))
		}
	case reflect.String:
		b.WriteString(strconv.Quote(v.String()) + " ")
	case reflect.Bool:
		b.WriteString(strconv.FormatBool(v.Bool()) + " ")
	case reflect.Int:
		b.WriteString(strconv.FormatInt(v.Int(), 10) + " ")
	case reflect.Uint64:
		b.WriteString(strconv.FormatUint(v.Uint(), 10) + " ")
	default:
		panic("no way to write " + v.Kind().String())
	}
}

// wantMoves checks that NewRaise and NewLower return what layer 9 does for the same arguments, but for lowering to X.
func wantMoves(t *testing.T, n *qnode.Nodes, at, thread int, mode api.Mode) {
	t.Helper()
	p, e := NewRaise(n, at, thread)
	q, f := latch.NewMove(n, at, thread, x)
	if e != f || dump(p) != dump(q) || (p == nil) != (e != api.OK) {
		t.Error(at, thread, p, e, f)
	}
	p, e = NewLower(n, at, thread, mode)
	q, f = latch.NewMove(n, at, thread, mode)
	if mode == x && f == api.OK {
		q, f = nil, api.ErrArg
	}
	if e != f || dump(p) != dump(q) || (p == nil) != (e != api.OK) {
		t.Error(at, thread, mode, p, e, f)
	}
}

// far returns numbers of neither words, threads nor modes; some would be, if they were cut off or went round.
func far() []int {
	return []int{-1, -2, 64, 65, api.MaxWords - 2, api.MaxWords, 1 << 32, 1<<32 + 1, 1 << 62, math.MaxInt - 1, math.MaxInt, math.MinInt, math.MinInt + 1}
}

// P10.1: moves are those of layer 9, with its errors.
func TestNewMoves(t *testing.T) {
	g := made(t, 3)
	for _, n := range []*qnode.Nodes{g.n, nil, {}} {
		for _, at := range append(far(), 0, 1, 2, 3, 4, 21, 22, api.MaxWords-3) {
			for _, thread := range append(far(), 0, 1, 2, 3) {
				for _, mode := range append(far(), 0, 1, 2, 3, 4) {
					wantMoves(t, n, at, thread, api.Mode(mode))
				}
			}
		}
	}
}

// P10.1: ErrNil comes before ErrArg, which neither U nor S has.
func TestNewErrors(t *testing.T) {
	g := made(t, 2)
	for i, c := range []struct {
		n          *qnode.Nodes
		at, thread int
		mode       api.Mode
		e          api.Errno
	}{
		{g.n, 0, 0, u, api.OK}, {g.n, 1, 1, s, api.OK}, {g.n, 0, 0, x, api.ErrArg}, {g.n, 0, 0, api.ModeNone, api.ErrArg}, {g.n, 0, 0, 4, api.ErrArg}, {g.n, 0, 0, -1, api.ErrArg},
		{g.n, 4, 0, u, api.ErrArg}, {g.n, 2, 0, s, api.ErrArg}, {g.n, -1, 0, u, api.ErrArg}, {g.n, 0, 2, u, api.ErrArg}, {g.n, 0, -1, s, api.ErrArg},
		{nil, 0, 0, u, api.ErrNil}, {nil, 0, 0, x, api.ErrNil}, {nil, -1, -1, 0, api.ErrNil}, {&qnode.Nodes{}, 0, 0, s, api.ErrNil}, {&qnode.Nodes{}, 4, 9, x, api.ErrNil},
	} {
		if p, e := NewLower(c.n, c.at, c.thread, c.mode); e != c.e || (p == nil) != (e != api.OK) {
			t.Error(i, p, e)
		}
		if c.n == g.n && (c.mode == u || c.mode == s) || c.n != g.n {
			if p, e := NewRaise(c.n, c.at, c.thread); e != c.e || (p == nil) != (e != api.OK) {
				t.Error(i, p, e)
			}
		}
	}
}

// P10.1: what a thread holds then; who holds less, or nothing, is refused.
func TestRaiseAndLower(t *testing.T) {
	g := made(t, 2)
	raise := func() *latch.Move { return g.move(NewRaise(g.n, 0, 1)) }
	lower := func(m api.Mode) *latch.Move { return g.move(NewLower(g.n, 0, 1, m)) }
	refused := func(l ...*latch.Move) {
		t.Helper()
		was := g.looks(0)
		for _, p := range l {
			g.ends(p, 0)
		}
		g.wantLatch(0, was)
	}
	refused(raise(), lower(u), lower(s))
	g.ends(g.acquire(0, 1, u), 1)
	refused(lower(u))
	g.ends(raise(), 1)
	g.wantLatch(0, api.Latch{Update: -1, Exclusive: 1, Wants: -1})
	refused(raise())
	g.ends(lower(u), 1)
	g.wantLatch(0, api.Latch{Update: 1, Exclusive: -1, Wants: -1})
	g.ends(raise(), 1)
	g.ends(lower(s), 1)
	g.wantLatch(0, api.Latch{Shared: []int{1}, Update: -1, Exclusive: -1, Wants: -1, Group: 1})
	refused(raise(), lower(u), lower(s))
	g.ends(g.release(0, 1), 1)
	g.ends(g.acquire(0, 1, u), 1)
	g.ends(lower(s), 1)
	g.wantLatch(0, api.Latch{Shared: []int{1}, Update: -1, Exclusive: -1, Wants: -1, Group: 1})
}
