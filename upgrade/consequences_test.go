package upgrade

import (
	"crypto/sha256"
	"math/rand"
	"slices"
	"strings"
	"testing"

	"ticketline/api"
	"ticketline/latch"
	"ticketline/modes"
)

// player is a thread that runs the programs of its plan: how many it has begun, the one that runs, if any, what it holds by the moves that have ended, and how often it has changed the word 3.
type player struct {
	begun, changed int
	run            api.Program
	holds          api.Mode
}

// play is a state of all players, on its arena, and of the latch, when its words said something the last time: between two stores they may say nothing.
type play struct {
	g       ground
	players []player
	latch   api.Latch
}

// start returns the first state.
func start(t *testing.T, plans []string) play {
	return play{made(t, len(plans)), make([]player, len(plans)), nobody()}
}

// copied returns a state that goes on independently.
func (p play) copied() play {
	p.g, p.players = p.g.copied(), slices.Clone(p.players)
	for i := range p.players {
		if r := p.players[i].run; r != nil {
			p.players[i].run = r.Copy()
		}
	}
	return p
}

// game is the plans of some players: in these, s, u and x get the latch, S, U and X go to a mode, - gives it back, ! decides to change, and ? not to.
type game struct {
	*testing.T
	plans []string
}

// over reports whether a player has nothing more to do.
func (g game) over(p play, i int) bool {
	return p.players[i].run == nil && p.players[i].begun == len(g.plans[i])
}

// begin returns the program that a letter stands for, and what is held when it has ended, if it was not refused.
func begin(g ground, i int, letter byte) (api.Program, api.Mode) {
	switch letter {
	case '!':
		return g.decide(i, &reader{word: 3, times: 2, result: 1}, &adder{word: 3}), api.ModeNone
	case '?':
		return g.decide(i, &reader{word: 3, times: 2}, &adder{word: 3}), api.ModeNone
	case '-':
		return g.release(0, i), api.ModeNone
	case 'X':
		return g.move(NewRaise(g.n, 0, i)), x
	case 'S', 'U':
		mode := byLetter(letter)
		return g.move(NewLower(g.n, 0, i, mode)), mode
	}
	mode := byLetter(letter)
	return g.acquire(0, i, mode), mode
}

// byLetter returns the mode with a letter.
func byLetter(letter byte) api.Mode {
	return [...]api.Mode{'s': s, 'u': u, 'x': x, 'S': s, 'U': u}[letter]
}

// step lets a player make a step, beginning a program if it runs none, and reports whether it has waited.
func (g game) step(p *play, i int) bool {
	o := &p.players[i]
	if o.run == nil {
		o.run, _ = begin(p.g, i, g.plans[i][o.begun])
		o.begun++
	}
	waits, _ := p.g.step(o.run)
	if now, e := latch.Look(p.g.m, p.g.n, 0); e == api.OK {
		g.kept(p.latch, now)
		p.latch = now
	}
	if o.run.Done() {
		g.ended(p, i)
	}
	return waits
}

// kept checks that nobody who comes gets the latch while somebody wants X, and that this one gets it as soon as nobody holds S.
func (g game) kept(before, now api.Latch) {
	if before.Wants < 0 {
		return
	}
	for _, t := range now.Shared {
		if !slices.Contains(before.Shared, t) {
			g.Fatal(g.plans, "got S in front of who wants X", before, now)
		}
	}
	if now.Wants != before.Wants && (now.Exclusive != before.Wants || now.Update >= 0) {
		g.Fatal(g.plans, "wants X, and does not get it", before, now)
	}
}

// ended takes note of what a program that has ended has done.
func (g game) ended(p *play, i int) {
	o := &p.players[i]
	letter := g.plans[i][o.begun-1]
	_, mode := begin(p.g, i, letter)
	switch _, decides := o.run.(*Decide); {
	case decides && o.holds != api.ModeNone || letter == '?':
		if o.run.Result() != 0 {
			g.Fatal(g.plans, i, "was to be refused, or to change nothing", o.run.Result())
		}
	case decides:
		if o.changed++; o.run.Result() != added {
			g.Fatal(g.plans, i, o.run.Result())
		}
	case o.run.Result() == 1:
		o.holds = mode
	}
	o.run = nil
}

// check checks a state: what is held goes together, also by those who look and change; and if nobody holds it who runs nothing, somebody's next step does not wait. Waits says whose next steps do.
func (g game) check(p play, waits []bool) {
	var held []api.Mode
	running, goes, idle := false, false, false
	for i, o := range p.players {
		if o.run != nil {
			running, goes = true, goes || !waits[i]
		} else if o.holds != api.ModeNone {
			idle = true
		}
		if d, is := o.run.(*Decide); is {
			held = append(held, g.decides(p.latch, i, d)...)
		} else if o.run == nil && o.holds != api.ModeNone {
			held = append(held, o.holds)
		}
	}
	if !modes.All(held) {
		g.Fatal(g.plans, "does not go together:", held)
	}
	if running && !idle && !goes {
		g.Fatal(g.plans, "all of them wait")
	}
}

// decides checks how the latch is held while a decision looks or changes, and returns this.
func (g game) decides(l api.Latch, i int, d *Decide) []api.Mode {
	switch d.now {
	case looking:
		if l.Update != i || l.Exclusive >= 0 || l.Wants >= 0 {
			g.Fatal(g.plans, i, "looks, and does not hold U", l)
		}
		return []api.Mode{u}
	case changing:
		if l.Update >= 0 || l.Exclusive != i || len(l.Shared) > 0 {
			g.Fatal(g.plans, i, "changes, and does not hold X", l)
		}
		return []api.Mode{x}
	}
	return nil
}

// finished checks a state in which all players have come to the end of their plans: no change was lost.
func (g game) finished(p play) {
	want := uint64(0)
	for _, o := range p.players {
		want += uint64(o.changed)
	}
	if v, e := p.g.m.Load(3); v != want || e != api.OK {
		g.Fatal(g.plans, v, "changes, and not", want)
	}
	p.g.wantLatch(0, nobody())
}

// key returns a short number for all that a state has.
func (p play) key() [sha256.Size]byte {
	w, _ := p.g.m.Words(0, p.g.m.Len())
	return sha256.Sum256([]byte(dump(w) + dump(p.players) + dump(p.latch)))
}

// all goes through all states that may come, and returns how many there are.
func (g game) all() int {
	seen := map[[sha256.Size]byte]bool{}
	for work := []play{start(g.T, g.plans)}; len(work) > 0; {
		p := work[len(work)-1]
		work = work[:len(work)-1]
		waits, over := make([]bool, len(g.plans)), true
		for i := range g.plans {
			if g.over(p, i) {
				continue
			}
			over = false
			after := p.copied()
			waits[i] = g.step(&after, i)
			if k := after.key(); !seen[k] {
				seen[k] = true
				work = append(work, after)
			}
		}
		if g.check(p, waits); over {
			g.finished(p)
		}
	}
	return len(seen)
}

// P10.4: in all orders of steps, of two and three threads.
func TestAllOrders(t *testing.T) {
	for _, plans := range [][]string{
		{"!s!-x?-!"}, {"!!", "!"}, {"!?", "?!"}, {"!", "s-s-"}, {"?!", "x-u-"}, {"!", "uX-"}, {"!", "xUS-"}, {"!", "uSX-"}, {"s!-", "!"}, {"s?-", "u!-"},
		{"!", "s-", "s-"}, {"!", "s-", "?"},
	} {
		g := game{t, plans}
		t.Log(plans, g.all(), "states")
	}
}

// P10.4: in random orders of steps, of up to ten threads with random plans: all of them come to their end, if each is picked again and again.
func TestRandomOrders(t *testing.T) {
	r := rand.New(rand.NewSource(104))
	for range 80 {
		g := game{t, make([]string, 1+r.Intn(10))}
		letters := []string{"!", "!?", "!!s-", "!!?s-uX-x-", "s!-SUX?-u-x-"}[r.Intn(5)]
		for i := range g.plans {
			for range 6 {
				g.plans[i] += string(letters[r.Intn(len(letters))])
			}
			g.plans[i] += "-"
		}
		p := start(t, g.plans)
		some := 1 + r.Intn(len(g.plans))
		for many := 0; slices.ContainsFunc(p.players, func(o player) bool { return o.run != nil || o.begun < 7 }); many++ {
			i := r.Intn(len(g.plans))
			if r.Intn(10) > 0 {
				i %= some // others are picked more seldom
			}
			if !g.over(p, i) {
				g.step(&p, i)
			}
			g.check(p, make([]bool, len(p.players)))
			if many > 200000 {
				t.Fatal(g.plans, "no end")
			}
		}
		g.finished(p)
	}
}

// P10.4: a thread that goes to X waits for those alone that hold S: those who wait behind it need make no step, nor does it wait for who waits for S.
func TestWaitsForShared(t *testing.T) {
	for _, readers := range []int{0, 1, 2, 3} {
		g := made(t, 8)
		for i := range readers {
			g.ends(g.acquire(0, 1+i, s), 1)
		}
		d := g.decide(0, &reader{word: 3, times: 1, result: 1}, &adder{word: 3})
		for d.now != raising {
			if waits, _ := g.step(d); waits {
				t.Fatal("waits for S, and not for X")
			}
		}
		var behind []*latch.Move
		for i, mode := range []api.Mode{u, s, x, s} {
			p := g.acquire(0, 4+i, mode)
			for waits := false; !waits && !p.Done(); {
				waits, _ = g.step(p)
			}
			behind = append(behind, p)
		}
		for i := range readers {
			for waits := false; !waits; {
				waits, _ = g.step(d)
			}
			if l := g.looks(0); d.now != raising || l.Wants != 0 || len(l.Shared) != readers-i {
				t.Fatal(readers, i, d.now, l)
			}
			g.ends(g.release(0, 1+i), 1)
		}
		g.ends(d, added)
		if !strings.HasPrefix(dump(g.looks(0).Shared), "1: 5 ") || g.looks(0).Update != 4 {
			t.Error(readers, g.looks(0))
		}
		g.ends(behind[0], 1)
		g.ends(behind[1], 1)
	}
}
