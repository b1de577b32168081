package latch

import (
	"fmt"
	"math/rand"
	"slices"
	"testing"

	"ticketline/api"
	"ticketline/mcs"
	"ticketline/mem"
	"ticketline/modes"
	"ticketline/qnode"
)

// words is a small arena that can be compared: a latch at the word 0, and nodes of three threads from the word 3 on.
type words [21]uint64

func (m *words) Load(w int) (uint64, api.Errno) { return m[w], api.OK }

func (m *words) Store(w int, v uint64) api.Errno {
	m[w] = v
	return api.OK
}

func (m *words) CAS(w int, old, new uint64) (bool, api.Errno) {
	if m[w] != old {
		return false, api.OK
	}
	m[w] = new
	return true, api.OK
}

func (m *words) Swap(w int, v uint64) (uint64, api.Errno) {
	was := m[w]
	m[w] = v
	return was, api.OK
}

func (m *words) Len() int { return len(m) }

// player is a thread that makes the moves of its plan: what it has begun of it, the move that it runs, if any, and what it holds by the moves that have ended.
type player struct {
	begun int
	run   *Move
	holds api.Mode
}

// play is a state of all players, on some arena, and of the latch, when its words were stored the last time; and how many have got it shared then since nobody had, while somebody waited behind them.
type play struct {
	m       api.Memory
	players []player
	latch   api.Latch
	shared  int
}

// game is some players with their plans: in these, s, u and x get the latch, S, U and X go to a mode, and - gives it back.
type game struct {
	t     *testing.T
	n     *qnode.Nodes
	plans []string
}

// start returns the first state, on an arena.
func (g game) start(m api.Memory) play {
	return play{m: m, players: make([]player, len(g.plans)), latch: nothing()}
}

// over reports whether a player has nothing more to do.
func (g game) over(s play, i int) bool {
	return s.players[i].run == nil && s.players[i].begun == len(g.plans[i])
}

// begin returns the move that a letter stands for.
func (g game) begin(i int, letter byte) *Move {
	var p *Move
	var e api.Errno
	switch letter {
	case '-':
		p, e = NewRelease(g.n, 0, i)
	case 'S', 'U', 'X':
		p, e = NewMove(g.n, 0, i, byLetter(rune(letter)+'a'-'A'))
	default:
		p, e = NewAcquire(g.n, 0, i, byLetter(rune(letter)))
	}
	if e != api.OK {
		g.t.Fatal(e)
	}
	return p
}

// step lets a player make a step, beginning a move if it runs none, and reports whether it has waited.
func (g game) step(s *play, i int) bool {
	p := &s.players[i]
	if p.run == nil {
		p.run = g.begin(i, g.plans[i][p.begun])
		p.begun++
	}
	before := p.run.next
	waits, e := p.run.Step(s.m)
	if e != api.OK {
		g.t.Fatal(g.plans, i, e)
	}
	if p.run.next == giveGuard && before != giveGuard {
		g.stored(s, i)
	}
	if p.run.Done() {
		if p.run.Result() == 1 {
			p.holds = p.run.mode // none for giving back
		}
		p.run = nil
	}
	return waits
}

// stored checks what has changed since the words were stored the last time: who has got the latch stood in front, and who has come stands last.
func (g game) stored(s *play, i int) {
	before, now, run := s.latch, g.look(s), s.players[i].run
	s.latch = now
	gone := max(0, len(before.Queue)-len(now.Queue))
	if run.kind == toGet && run.waits {
		if len(now.Queue) != len(before.Queue)+1 || now.Queue[len(before.Queue)] != (api.Waiter{Thread: i, Mode: run.mode}) {
			g.t.Fatal("is not the last one", i, before, now)
		}
		now.Queue = now.Queue[:len(before.Queue)]
	}
	if !slices.Equal(now.Queue, before.Queue[gone:]) {
		g.t.Fatal("not in order", before, now)
	}
	if len(before.Shared) == 0 || run.kind == toGiveBack && slices.Equal(before.Shared, []int{i}) {
		s.shared = 0
	}
	got := map[int]api.Mode{}
	for k, w := range before.Queue[:gone] {
		got[w.Thread] = w.Mode
		if w.Mode == api.ModeShared && k+1 < len(before.Queue) {
			s.shared++
		}
	}
	if s.shared > modes.Batch {
		g.t.Fatal("too many", before, now)
	}
	for t := range s.players {
		was, is := in(before, t), in(now, t)
		if is == was || t == i && run.kind != toGet || t == before.Wants && is == x && len(now.Shared) == 0 {
			if got[t] != api.ModeNone {
				g.t.Fatal("has not got it", t, before, now)
			}
			continue
		}
		if got[t] != is && (t != i || len(before.Queue) > 0 || before.Wants >= 0) {
			g.t.Fatal("has got it, and was not its turn", t, before, now)
		}
	}
}

// look returns the state of the latch, which must be one.
func (g game) look(s *play) api.Latch {
	l, e := Look(s.m, g.n, 0)
	if e != api.OK {
		g.t.Fatal(e)
	}
	return l
}

// in returns in which mode a thread holds a latch.
func in(l api.Latch, thread int) api.Mode {
	switch {
	case l.Exclusive == thread:
		return x
	case l.Update == thread:
		return u
	case slices.Contains(l.Shared, thread):
		return s
	}
	return api.ModeNone
}

// check checks a state: what is held goes together; and if nobody holds it who runs no move, somebody's next step does not wait. Waits says whose next steps do.
func (g game) check(s play, waits []bool) {
	var held []api.Mode
	running, goes, idle := false, false, false
	for i, p := range s.players {
		if p.run != nil {
			running, goes = true, goes || !waits[i]
		} else if p.holds != api.ModeNone {
			held, idle = append(held, p.holds), true
		}
	}
	if !modes.All(held) {
		g.t.Fatal(g.plans, "does not go together:", held)
	}
	if running && !idle && !goes {
		g.t.Fatal(g.plans, "all of them wait")
	}
}

// playerKey is all that a player has.
type playerKey struct {
	begun          int
	holds          api.Mode
	next           stage
	was            [2]uint64
	is             state
	front          api.Mode
	woken          [4]int
	refused, waits bool
	guard          string
}

// keyOf returns all that a player has, so that it can be compared.
func keyOf(p player) playerKey {
	k := playerKey{begun: p.begun, holds: p.holds}
	if p.run == nil {
		return k
	}
	k.next, k.was, k.is, k.front, k.refused, k.waits = p.run.next, p.run.was, p.run.is, p.run.front, p.run.refused, p.run.waits
	copy(k.woken[:], p.run.woken)
	switch p.run.next {
	case getGuard:
		k.guard = fmt.Sprint(*p.run.enter.(*mcs.Acquire))
	case giveGuard:
		k.guard = fmt.Sprint(*p.run.leave.(*mcs.Release))
	}
	return k
}

// key is all that a state has.
type key struct {
	words   words
	players [3]playerKey
}

// copied returns a state that goes on independently, and its arena.
func (s play) copied() (play, *words) {
	m := *s.m.(*words)
	out := s
	out.m, out.players = &m, slices.Clone(s.players)
	for i := range out.players {
		if r := out.players[i].run; r != nil {
			out.players[i].run = r.Copy().(*Move)
		}
	}
	return out, &m
}

// all goes through all states that may come, and returns how many there are.
func (g game) all() int {
	first := g.start(&words{})
	seen := map[key]bool{}
	for work := []play{first}; len(work) > 0; {
		s := work[len(work)-1]
		work = work[:len(work)-1]
		waits := make([]bool, len(g.plans))
		for i := range g.plans {
			if g.over(s, i) {
				continue
			}
			after, m := s.copied()
			waits[i] = g.step(&after, i)
			k := key{words: *m}
			for j, p := range after.players {
				k.players[j] = keyOf(p)
			}
			if !seen[k] {
				seen[k] = true
				work = append(work, after)
			}
		}
		g.check(s, waits)
	}
	return len(seen)
}

// P9.5: in all orders of steps, of two and three threads.
func TestAllOrders(t *testing.T) {
	for _, plans := range [][]string{
		{"s-x-uX-"}, {"xUS-", "uXS-"}, {"uX-", "s-s-"}, {"x-x-", "x-x-"}, {"uSX-", "xSs-u-"}, {"x-", "s-", "s-"}, {"uX-", "s-", "s-"},
	} {
		g := game{t, nodes(t, 3, 3), plans}
		t.Log(plans, g.all(), "states")
	}
}

// P9.5: in random orders of steps, of up to ten threads with random plans: all of them come to their end, if each is picked again and again.
func TestRandomOrders(t *testing.T) {
	r := rand.New(rand.NewSource(95))
	for range 300 {
		g := game{t, nodes(t, 3, 2+r.Intn(9)), nil}
		letters := []string{"sux-SUX", "sux---X", "ss-", "ssssx---", "uX---s"}[r.Intn(5)]
		for range g.n.Threads() {
			plan := make([]byte, 8)
			for i := range plan {
				plan[i] = letters[r.Intn(len(letters))]
			}
			g.plans = append(g.plans, string(plan)+"-")
		}
		s := g.start(arena(t, 3+g.n.Len()))
		some := 1 + r.Intn(g.n.Threads())
		for many := 0; slices.ContainsFunc(s.players, func(p player) bool { return p.run != nil || p.begun < 9 }); many++ {
			i := r.Intn(g.n.Threads())
			if r.Intn(10) > 0 {
				i = i % some // others are picked more seldom
			}
			if !g.over(s, i) {
				g.step(&s, i)
			}
			g.check(s, make([]bool, len(s.players)))
			if many > 200000 {
				t.Fatal(g.plans, "no end")
			}
		}
		if l := g.look(&s); !same(l, nothing()) {
			t.Fatal(g.plans, l)
		}
	}
}

// P1: no call panics, whatever the arguments and the words are; a step with an error, or that waits, changes nothing.
func FuzzCalls(f *testing.F) {
	f.Add(3, 3, 0, 0, 1, uint64(0), uint64(0), uint64(0), uint64(0))
	f.Add(3, 3, 0, 1, 1, uint64(1), uint64(1<<40), uint64(0), uint64(1))
	f.Add(3, 3, 0, 2, 2, uint64(0), uint64(3<<8+2<<24+4<<32), uint64(4), uint64(1))
	f.Add(0, 64, 400, 63, 3, uint64(1<<63), uint64(64+4<<40), uint64(0), uint64(2))
	f.Add(-1, 0, -1, -1, 0, uint64(0), uint64(1<<48), uint64(0), uint64(0))
	f.Add(65530, 1, 65527, 0, 3, uint64(0), uint64(1+1<<16), uint64(9), uint64(9))
	f.Fuzz(func(t *testing.T, base, threads, at, thread, mode int, bits, state, next, wanted uint64) {
		l, first, last, e := Unpack([2]uint64{bits, state})
		w, f := Pack(l, first, last)
		if e == api.OK && (f != api.OK || w != [2]uint64{bits, state}) || e != api.OK && (e != api.ErrMalformed || first != 0 || last != 0) {
			t.Fatal(l, first, last, e, w, f)
		}
		Pack(api.Latch{Shared: []int{base, at}, Update: thread, Exclusive: mode, Wants: threads, Group: base}, at, thread)
		n, _ := qnode.New(base, threads)
		g := ground{t, arena(t, 500), n, at}
		want := api.OK
		if n == nil {
			want = api.ErrNil
		} else if at < 0 || at > 65533 || at+2 >= base && at < base+6*threads {
			want = api.ErrArg
		}
		if _, e := Look(g.m, n, at); want != api.OK && e != want {
			t.Fatal(e)
		}
		if want == api.OK && (thread < 0 || thread >= threads) {
			want = api.ErrArg
		}
		p, e := NewRelease(n, at, thread)
		if e != want || (p == nil) != (e != api.OK) {
			t.Fatal(e)
		}
		if want == api.OK && (mode < 1 || mode > 3) {
			want = api.ErrArg
		}
		q, e := NewAcquire(n, at, thread, api.Mode(mode))
		r, f := NewMove(n, at, thread, api.Mode(mode))
		if e != want || f != want || (q == nil) != (e != api.OK) || (r == nil) != (e != api.OK) {
			t.Fatal(e, f)
		}
		g.m.Store(at+1, bits)
		for _, move := range []*Move{p, q, r} {
			if move != nil {
				g.m.Store(at, 0)
				g.m.Store(at+2, state)
				for node := range 2 * threads {
					g.m.Store(n.Next(node), next)
					g.m.Store(n.Mode(node), wanted)
				}
				g.fuzz(move)
			}
		}
	})
}

// fuzz makes some steps of a program, on an arena in which anything may be.
func (g ground) fuzz(p *Move) {
	g.Helper()
	for i := range 40 {
		done, was, m := p.Done(), inside(p), g.m.Copy()
		o, e := mem.NewOnce(g.m)
		if e != api.OK {
			g.Fatal(e)
		}
		waits, e := p.Step(o)
		if done != (e == api.ErrEnd) || e != api.OK && waits {
			g.Fatal(i, done, waits, e)
		}
		if (waits || e != api.OK) && (inside(p) != was || !g.m.Same(m)) {
			g.Fatal(i, waits, e)
		}
		if !waits && e == api.OK && (inside(p) == was || o.Access() == (api.Access{})) {
			g.Fatal(i)
		}
		if p.Result() > 1 || p.Result() == 1 && !p.Done() {
			g.Fatal(i, p.Result())
		}
	}
}
