package slot

import (
	"math/rand"
	"slices"
	"testing"

	"ticketline/api"
)

// P14.4: what Make returns is a used page without slots, with these fences.
func TestMadeIsUsed(t *testing.T) {
	r := rand.New(rand.NewSource(1))
	fine, wrong := 0, 0
	for range 20000 {
		level, low, high := r.Intn(6), someBytes(r, r.Intn(25)*r.Intn(2)), someBytes(r, r.Intn(25)*r.Intn(2))
		p, e := Make(level, low, high)
		if high != "" && low >= high {
			wrong++
			if p != (api.Page{}) || e != api.ErrOrder {
				t.Fatalf("%q %q %v", low, high, e)
			}
			continue
		}
		fine++
		if e != api.OK {
			t.Fatalf("%q %q %v", low, high, e)
		}
		wantView(t, p, view{level: level, gap: 108, low: low, high: high})
	}
	if fine < 2000 || wrong < 2000 {
		t.Error(fine, wrong)
	}
}

// used returns which words of a used page are its head's, its directory's or its records'.
func used(p api.Page) (is [128]bool) {
	for i := 8; i < 20+int(p[9]); i++ {
		is[i] = true
	}
	for i := range p[9] {
		_, _, record, _ := directSlot(p, i)
		for _, w := range record {
			is[w] = true
		}
	}
	return is
}

// P14.4: the words 0 to 7, the gap, and words that no record has change nothing in any answer.
func TestWordsThatDoNotMatter(t *testing.T) {
	r := rand.New(rand.NewSource(2))
	for range 3000 {
		p, _ := somePage(r)
		want, _ := direct(p)
		is := used(p)
		zeros, ones, others := p, p, p
		for i := range p {
			if !is[i] {
				zeros[i], ones[i], others[i] = 0, 1<<64-1, r.Uint64()>>r.Intn(64)
			}
		}
		for _, q := range []api.Page{p, zeros, ones, others} {
			wantView(t, q, want)
		}
	}
}

// P14.4: words that are not those of a used page are not, whatever the words are that do not matter.
func TestWordsThatDoNotHelp(t *testing.T) {
	p := with(made(t, 0, "b", "m"), pair("cat", "1"), pair("dog", "2"))
	p[11] -= 3
	for _, q := range []api.Page{set(p, 8, 0), set(p, 9, 3), set(p, 11, 130), set(p, 12, 25), set(p, 20, p[21]), set(p, 127, 1)} {
		for _, x := range []uint64{0, 1, 1<<64 - 1} {
			for i := range 8 {
				q[i] = x
			}
			for i := 23; i < 121; i++ {
				q[i] = x
			}
			wantMalformed(t, q)
		}
	}
}

// P14.4: the load is the sum of the costs of Pairs, and together with the gap at most Room.
func TestLoadAndPairs(t *testing.T) {
	r := rand.New(rand.NewSource(3))
	full, spare := 0, 0
	for range 5000 {
		p, _ := somePage(r)
		l, e := Pairs(p)
		load, f := Load(p)
		gap, g := Gap(p)
		sum := 0
		for _, x := range l {
			sum += Cost(x.Key, x.Value)
		}
		if e != api.OK || f != api.OK || g != api.OK || load != sum || gap < 0 || load+gap > Room {
			t.Fatal(e, f, g, load, sum, gap)
		}
		if load+gap == Room {
			full++
		} else {
			spare++
		}
	}
	if full < 200 || spare < 1000 {
		t.Error(full, spare)
	}
}

// P14.4: where the records of the same pairs are makes no difference in any answer but the gap.
func TestPairsMakeThePage(t *testing.T) {
	r := rand.New(rand.NewSource(4))
	for range 2000 {
		p, _ := somePage(r)
		want, _ := direct(p)
		q := made(t, want.level, "", "")
		q = with(set(q, 10, p[10]), want.pairs...)
		copy(q[12:20], p[12:20])
		want.gap = 108 - want.load
		wantView(t, q, want)
	}
}

// P14.2: results are new each time, and equal calls have equal results.
func TestResultsAreNew(t *testing.T) {
	p := with(made(t, 0, "b", "m"), pair("cat", "1"), pair("dog", "2"))
	was := p
	l, _ := Pairs(p)
	l[0] = pair("x", "y")
	_ = append(l[:1], pair("z", "z"))
	want := view{load: 6, gap: 102, low: "b", high: "m", pairs: []api.Pair{pair("cat", "1"), pair("dog", "2")}}
	wantView(t, p, want)
	k, _ := Key(p, 0)
	v, _ := Value(p, 1)
	low, high, _ := Fences(p)
	if p != was {
		t.Error("changed")
	}
	clear(p[8:])
	if k != "cat" || v != "2" || low != "b" || high != "m" {
		t.Error(k, v, low, high)
	}
	wantMalformed(t, p)
	wantView(t, was, want)
}

// P14.2: an index that no slot has comes before a leaf without children, and wrong words before both.
func TestOrderOfErrors(t *testing.T) {
	p := with(made(t, 0, "", ""), pair("cat", "1"))
	if _, e := Child(p, 1); e != api.ErrRange {
		t.Error(e)
	}
	if _, e := Child(p, 0); e != api.ErrState {
		t.Error(e)
	}
	for _, i := range []int{-1, 0, 1} {
		wantNoSlot(t, set(p, 11, 129), i, api.ErrMalformed)
		wantNoSlot(t, api.Page{}, i, api.ErrMalformed)
	}
	wantNoSlot(t, made(t, 0, "", ""), 0, api.ErrRange)
	wantNoSlot(t, made(t, 1, "", ""), 0, api.ErrRange)
}

// wordsOf returns a page with the words that bytes say: of each four the first one is the index of a word, and the others its lowest bytes, or, from the index 128 on, its highest ones.
func wordsOf(p api.Page, b []byte) api.Page {
	for ; len(b) >= 4; b = b[4:] {
		n := uint64(b[1])<<16 + uint64(b[2])<<8 + uint64(b[3])
		if b[0] >= 128 {
			n <<= 40
		}
		p[b[0]%128] = n
	}
	return p
}

// P1, P14.1 to P14.3: no call panics, whatever the words, the fences and the index are.
func FuzzCalls(f *testing.F) {
	f.Add([]byte{}, 0, "b", "m", 0)
	f.Add([]byte{9, 0, 0, 1, 11, 0, 0, 125, 20, 125, 8, 9}, 0, "", "", 0)
	f.Add([]byte{9, 0, 0, 1, 11, 0, 0, 127, 20, 127, 0, 8, 127, 0, 1, 255}, 5, "", "", 0)
	f.Add([]byte{9, 0, 0, 1, 11, 0, 0, 127, 20, 127, 1, 0}, 1, "m", "", -1)
	f.Add([]byte{9, 0, 0, 1, 11, 0, 0, 128, 20, 128, 0, 0}, 2, "", "m", 128)
	f.Add([]byte{9, 0, 0, 2, 11, 0, 0, 100, 20, 100, 24, 40, 21, 110, 1, 0, 12, 0, 0, 9}, 0, "a", "z", 1)
	f.Add([]byte{136, 1, 0, 0, 137, 0, 0, 1, 138, 255, 255, 255, 139, 0, 0, 1, 140, 1, 0, 0}, 3, "z", "a", 1<<62)
	f.Add([]byte{8, 0, 0, 1, 11, 0, 0, 21, 9, 0, 0, 1, 20, 21, 255, 255}, 6, "", "", -1<<62)
	f.Add(slices.Repeat([]byte{255}, 300), -1, times(255, 25), times(0, 24), -1<<63)
	f.Fuzz(func(t *testing.T, b []byte, level int, low, high string, i int) {
		p, e := Make(level, low, high)
		want := api.OK
		switch {
		case level < 0 || level > 5:
			want = api.ErrArg
		case len(low) > 24 || len(high) > 24:
			want = api.ErrLong
		case high != "" && low >= high:
			want = api.ErrOrder
		}
		if e != want || (e == api.OK) != Valid(p) || e != api.OK && p != (api.Page{}) {
			t.Fatalf("%v %q %q %v %v", level, low, high, e, want)
		}
		p = wordsOf(p, b)
		v, is := direct(p)
		switch {
		case !is:
			wantMalformed(t, p)
			wantNoSlot(t, p, i, api.ErrMalformed)
		case i < 0 || i >= len(v.pairs):
			wantView(t, p, v)
			wantNoSlot(t, p, i, api.ErrRange)
		default:
			wantView(t, p, v)
		}
	})
}
