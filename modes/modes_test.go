package modes

import (
	"math"
	"slices"
	"strings"
	"testing"

	"ticketline/api"
)

// letters are the letters of modes, and of what is no mode.
const letters = "SUX-?<"

// of returns modes by their letters.
func of(s string) []api.Mode {
	l := []api.Mode{}
	for i := range len(s) {
		l = append(l, []api.Mode{1, 2, 3, 0, 4, -1}[strings.IndexByte(letters, s[i])])
	}
	return l
}

// lists returns all strings of at most so many of some letters.
func lists(some string, many int) []string {
	l := []string{""}
	for from := 0; many > 0; many-- {
		to := len(l)
		for _, s := range l[from:to] {
			for i := range len(some) {
				l = append(l, s+some[i:i+1])
			}
		}
		from = to
	}
	return l
}

// noModes returns numbers that are none of the three modes.
func noModes() []api.Mode {
	return []api.Mode{0, -1, 4, 5, -2, 255, 256, 257, 1 << 32, 1<<32 + 1, math.MaxInt, math.MinInt, math.MinInt + 1}
}

// groups returns numbers of a group, those at which something changes, and those that are none.
func groups() []int { return []int{0, 1, 2, 3, 4, 5, 9, -1, -4, math.MaxInt, math.MinInt} }

// P6.1, P6.2: the numbers of the modes, and the limit, as they are written.
func TestLimits(t *testing.T) {
	if Batch != 4 || api.ModeNone != 0 || api.ModeShared != 1 || api.ModeUpdate != 2 || api.ModeExclusive != 3 {
		t.Error(Batch, api.ModeNone, api.ModeShared, api.ModeUpdate, api.ModeExclusive)
	}
}

// P6.1: Valid, of the three modes and of other numbers.
func TestValid(t *testing.T) {
	for _, m := range of("SUX") {
		if !Valid(m) {
			t.Error(m)
		}
	}
	for _, m := range noModes() {
		if Valid(m) {
			t.Error(m)
		}
	}
}

// P6.1: Fits, of all pairs of modes, and of what is no mode, on both sides.
func TestFits(t *testing.T) {
	for s, want := range map[string]bool{"SS": true, "SU": true, "US": true, "UU": false, "SX": false, "XS": false, "UX": false, "XU": false, "XX": false} {
		if l := of(s); Fits(l[0], l[1]) != want {
			t.Error(s)
		}
	}
	for _, m := range noModes() {
		for _, other := range append(of("SUX"), noModes()...) {
			if Fits(m, other) || Fits(other, m) {
				t.Error(m, other)
			}
		}
	}
}

// fitAll reports whether all modes of a list are of the three, and any two of them go together, as the chapter says it.
func fitAll(l []api.Mode) bool {
	for i, m := range l {
		if m < 1 || m > 3 {
			return false
		}
		for _, other := range l[:i] {
			if !Fits(m, other) {
				return false
			}
		}
	}
	return true
}

// P6.1: All, of the chapter's examples, and of all short lists.
func TestAll(t *testing.T) {
	for s, want := range map[string]bool{"": true, "S": true, "U": true, "X": true, "SUS": true, "USS": true, "SSU": true, "SSSSSSSS": true, "SUU": false, "USU": false, "XX": false, "XS": false, "SSX": false, "UX": false, "-": false, "?": false, "<": false, "S-": false, "-S": false, "S?S": false} {
		if All(of(s)) != want {
			t.Error(s)
		}
	}
	if !All(nil) {
		t.Error("nil")
	}
	for _, s := range lists(letters, 5) {
		if l := of(s); All(l) != fitAll(l) {
			t.Error(s)
		}
	}
	for _, m := range noModes() {
		if All([]api.Mode{m}) || All([]api.Mode{1, m}) || All([]api.Mode{m, 1}) {
			t.Error(m)
		}
	}
}

// mayGo is Goes, as the chapter says it.
func mayGo(m api.Mode, held []api.Mode, group int, behind bool) bool {
	if m < 1 || m > 3 {
		return false
	}
	for _, h := range held {
		if !Fits(m, h) {
			return false
		}
	}
	return !(m == api.ModeShared && behind) || group < 4
}

// P6.2: Goes, of the chapter's examples, and of each mode that waits alone.
func TestGoes(t *testing.T) {
	for i, c := range []struct {
		m, held string
		group   int
		behind  bool
		want    bool
	}{
		{"S", "SU", 2, true, true}, {"S", "S", 4, true, false}, {"S", "S", 4, false, true}, {"U", "S", 4, true, true}, {"X", "", 0, true, true}, {"X", "S", 1, false, false},
		{"S", "", 3, true, true}, {"S", "", 4, true, false}, {"S", "", 5, true, false}, {"S", "", 5, false, true}, {"S", "", -1, true, true},
		{"S", "", math.MaxInt, true, false}, {"S", "", math.MaxInt, false, true}, {"S", "", math.MinInt, true, true},
		{"U", "", 9, true, true}, {"U", "SSSSS", 9, true, true}, {"U", "U", 0, false, false}, {"U", "SU", 0, false, false}, {"U", "X", 0, false, false},
		{"X", "", 9, true, true}, {"X", "U", 0, false, false}, {"X", "X", 0, false, false},
		{"S", "X", 0, false, false}, {"S", "SX", 0, false, false}, {"S", "U", 0, true, true}, {"S", "UU", 0, true, true},
		{"-", "", 0, false, false}, {"?", "", 0, false, false}, {"<", "", 0, false, false},
		{"S", "-", 0, false, false}, {"U", "S?", 0, false, false}, {"X", "<", 0, false, false}, {"-", "-", 0, false, false},
	} {
		if is := Goes(of(c.m)[0], of(c.held), c.group, c.behind); is != c.want {
			t.Error(i, is)
		}
	}
}

// P6.2: Goes, of all modes and all short lists of what is held, also of such that nobody can hold.
func TestGoesAll(t *testing.T) {
	for _, s := range lists(letters, 4) {
		held := of(s)
		for _, m := range append(of("SUX"), noModes()...) {
			for _, group := range groups() {
				for _, behind := range []bool{false, true} {
					if is := Goes(m, held, group, behind); is != mayGo(m, held, group, behind) {
						t.Fatal(m, s, group, behind, is)
					}
				}
			}
		}
	}
	if !Goes(api.ModeExclusive, nil, 0, false) {
		t.Error("nil")
	}
}

// given is Grants, as the chapter says it, one after the other.
func given(held, queue []api.Mode, group int) int {
	now := slices.Clone(held)
	for i, m := range queue {
		if !mayGo(m, now, group, i != len(queue)-1) {
			return i
		}
		now = append(now, m)
		if m == api.ModeShared && group < 4 {
			group++
		}
	}
	return len(queue)
}

// P6.2: Grants, of the chapter's examples, and of others.
func TestGrants(t *testing.T) {
	for i, c := range []struct {
		held, queue string
		group, want int
	}{
		{"", "SSSSSS", 0, 4}, {"", "SSSS", 0, 4}, {"", "SUSX", 0, 3}, {"", "XS", 0, 1}, {"S", "SSU", 3, 1}, {"U", "US", 0, 0},
		{"", "", 0, 0}, {"SU", "", 4, 0}, {"", "SSSSS", 0, 5}, {"", "SSSSSX", 0, 4}, {"", "SSSSUS", 0, 6}, {"", "SSSSUSX", 0, 5}, {"", "SSUSSSX", 0, 5},
		{"", "X", 9, 1}, {"", "U", 9, 1}, {"", "S", 9, 1}, {"", "SX", 9, 0}, {"", "SX", 4, 0}, {"", "SX", 3, 1}, {"", "US", 4, 2}, {"", "USX", 4, 1},
		{"", "XX", 0, 1}, {"", "UX", 0, 1}, {"", "SX", 0, 1}, {"", "UU", 0, 1}, {"S", "X", 1, 0}, {"X", "SUX", 0, 0}, {"U", "SSX", 0, 2}, {"U", "X", 0, 0},
		{"", "-", 0, 0}, {"", "S-S", 0, 1}, {"", "S?", 0, 1}, {"", "X<", 0, 1}, {"-", "S", 0, 0}, {"?", "U", 0, 0}, {"<", "X", 0, 0},
		{"", "SSX", math.MaxInt, 0}, {"", "S", math.MaxInt, 1}, {"", "US", math.MaxInt, 2}, {"", "SSSSSSSS", math.MinInt, 8}, {"", "SSSSSSX", -2, 6}, {"", "SSSSSSX", -1, 5},
	} {
		if n := Grants(of(c.held), of(c.queue), c.group); n != c.want {
			t.Error(i, n)
		}
	}
	if n := Grants(nil, nil, 0); n != 0 {
		t.Error("nil", n)
	}
}

// P6.2: Grants, of all short queues, for all groups and short lists of what is held.
func TestGrantsAll(t *testing.T) {
	wantGrants(t, lists("SUX", 3), lists("SUX", 7))
	wantGrants(t, lists(letters, 2), lists(letters, 4))
}

// wantGrants checks what Grants returns for all groups of what is held, and queues.
func wantGrants(t *testing.T, helds, queues []string) {
	t.Helper()
	for _, q := range queues {
		queue := of(q)
		for _, h := range helds {
			held := of(h)
			for _, group := range groups() {
				if n, want := Grants(held, queue, group), given(held, queue, group); n != want {
					t.Fatalf("held %q, queue %q, group %d: %d; want %d", h, q, group, n, want)
				}
			}
		}
	}
}

// P6.3: Word and ByWord, and their errors.
func TestWord(t *testing.T) {
	for i, want := range []string{"shared", "update", "exclusive"} {
		m := of("SUX")[i]
		if s, e := Word(m); s != want || e != api.OK {
			t.Error(m, s, e)
		}
		if is, e := ByWord(want); is != m || e != api.OK {
			t.Error(want, is, e)
		}
	}
	for _, m := range noModes() {
		if s, e := Word(m); s != "" || e != api.ErrArg {
			t.Error(m, s, e)
		}
	}
	for _, s := range []string{"", "X", "S", "U", "none", "Shared", "SHARED", "share", "shared ", " shared", "updates", "exclusiv", "exclusive\x00", "shared update", "0", "1", "\xff", strings.Repeat("shared", 1000)} {
		if m, e := ByWord(s); m != api.ModeNone || e != api.ErrFormat {
			t.Errorf("%q: %v, error %v", s, m, e)
		}
	}
}
