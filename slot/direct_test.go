package slot

import (
	"encoding/binary"
	"math/rand"
	"strings"
	"testing"

	"ticketline/api"
)

// image returns the bytes of a page, the highest one of each word first.
func image(p api.Page) string {
	b := make([]byte, 0, 1024)
	for _, w := range p {
		b = binary.BigEndian.AppendUint64(b, w)
	}
	return string(b)
}

// directBytes returns so many bytes of an image from a word on, how many words these have, and whether nothing else is in these.
func directBytes(b string, word, many uint64) (s string, words uint64, is bool) {
	for 8*words < many {
		words++
	}
	if word+words > 128 {
		return "", words, false
	}
	s = b[8*word : 8*word+many]
	return s, words, strings.Trim(b[8*word+many:8*(word+words)], "\x00") == ""
}

// directFence returns the fence that begins at a word, and whether it is one.
func directFence(p api.Page, word uint64) (string, bool) {
	if p[word] > 24 {
		return "", false
	}
	s, words, is := directBytes(image(p), word+1, p[word])
	for i := word + 1 + words; i < word+4; i++ {
		is = is && p[i] == 0
	}
	return s, is
}

// directSlot returns the key and the value of a slot, its child, and the words of its record, and whether it is a slot.
func directSlot(p api.Page, i uint64) (x api.Pair, child int, record []uint64, is bool) {
	start, key, value := p[20+i]/65536, p[20+i]/256%256, p[20+i]%256
	if start < p[11] || start > 127 || key > 24 || key == 0 && (p[8] == 1 || i > 0) || value > 40 || p[8] > 1 && value != 8 {
		return x, 0, nil, false
	}
	b := image(p)
	k, many, fits := directBytes(b, start, key)
	v, more, also := directBytes(b, start+many, value)
	for w := start; w < start+many+more; w++ {
		record = append(record, w)
	}
	is = fits && also
	if p[8] > 1 && is {
		n := p[start+many]
		is, child = n >= 1 && n <= 511, int(n)
	}
	return pair(k, v), child, record, is
}

// direct returns what the chapter says of a page, sentence by sentence, and whether it is a used page.
func direct(p api.Page) (v view, is bool) {
	if p[8] == 0 || p[8] > 6 || p[10] > 511 || p[11] > 128 || p[9] > 108 || p[11] < 20+p[9] {
		return v, false
	}
	v.level, v.next, v.gap = int(p[8])-1, int(p[10]), int(p[11]-20-p[9])
	var isLow, isHigh bool
	v.low, isLow = directFence(p, 12)
	v.high, isHigh = directFence(p, 16)
	owner := map[uint64]bool{}
	for i := range p[9] {
		x, child, record, is := directSlot(p, i)
		if !is {
			return v, false
		}
		for _, w := range record {
			if owner[w] {
				return v, false
			}
			owner[w] = true
		}
		v.pairs, v.children = append(v.pairs, x), append(v.children, child)
		v.load += 1 + len(record)
	}
	return v, isLow && isHigh
}

// someBytes returns bytes that come by chance, 0 and 255 among them.
func someBytes(r *rand.Rand, many int) string {
	b := make([]byte, many)
	for i := range b {
		b[i] = []byte{0, 1, 'a', 255, byte(r.Intn(256))}[r.Intn(5)]
	}
	return string(b)
}

// somePair returns a slot that comes by chance, which is allowed in a page of a level.
func somePair(r *rand.Rand, level int, isFirst bool) api.Pair {
	least := 1
	if level > 0 && isFirst {
		least = 0
	}
	long := 1 + r.Intn(24)
	k := someBytes(r, least+r.Intn(long-least+1))
	if level > 0 {
		return pair(k, number(uint64(1+r.Intn(511))))
	}
	return pair(k, someBytes(r, r.Intn(1+r.Intn(41))))
}

// somePage returns a used page that comes by chance, whose records are in any order, with words between them, and the pairs of its slots.
func somePage(r *rand.Rand) (api.Page, []api.Pair) {
	var p api.Page
	for i := range p {
		p[i] = r.Uint64() >> r.Intn(64)
	}
	level := r.Intn(6) * r.Intn(2)
	p[8], p[9], p[10] = uint64(level)+1, 0, uint64(r.Intn(512))
	for _, from := range []int{12, 16} {
		s := someBytes(r, r.Intn(25)*r.Intn(2))
		p[from] = uint64(len(s))
		clear(p[from+1 : from+4])
		copy(p[from+1:], words(s))
	}
	var l []api.Pair
	room := r.Intn(109)
	for {
		x := somePair(r, level, len(l) == 0)
		cost := Cost(x.Key, x.Value)
		if cost > room {
			break
		}
		l, room = append(l, x), room-cost
	}
	return placed(r, p, l), l
}

// placed returns a page with slots, whose records are put into it in any order, most often with some of the spare words between them.
func placed(r *rand.Rand, p api.Page, l []api.Pair) api.Page {
	spare := 108
	for _, x := range l {
		spare -= Cost(x.Key, x.Value)
	}
	between := spare * min(1, r.Intn(4))
	starts := make([]int, len(l))
	top := 128
	for _, i := range r.Perm(len(l)) {
		if n := r.Intn(between + 1); r.Intn(3) == 0 {
			top, between = top-n, between-n
		}
		top -= Cost(l[i].Key, l[i].Value) - 1
		starts[i] = top
	}
	p[11] = uint64(top - r.Intn(between+1))
	for i, x := range l {
		p = at(p, starts[i], x.Key, x.Value)
	}
	return p
}

// spoil returns a page one of whose words is another one, most often one that says something.
func spoil(r *rand.Rand, p api.Page) api.Page {
	i := []int{8 + r.Intn(12), 20 + r.Intn(1+int(p[9]%108)), r.Intn(128)}[r.Intn(3)]
	switch r.Intn(9) {
	case 0:
		p[i]++
	case 1:
		p[i]--
	case 2:
		p[i] ^= 1 << r.Intn(64)
	case 3:
		p[i] = 0
	case 4:
		p[i] = p[r.Intn(128)]
	case 5:
		p[i] += 256 * uint64(r.Intn(3)-1)
	case 6:
		p[i] += 65536 * uint64(r.Intn(5)-2)
	case 7:
		p[i] += 8 * uint64(r.Intn(3)-1)
	case 8:
		p[i] += uint64(r.Intn(9) - 4)
	}
	return p
}

// P14.1 to P14.3: pages that come by chance, and such with a few other words, against what the chapter says.
func TestDirect(t *testing.T) {
	r := rand.New(rand.NewSource(14))
	used, none := 0, 0
	for range 20000 {
		p, l := somePage(r)
		if v, is := direct(p); !is || len(v.pairs) != len(l) {
			t.Fatal("no used page:", p)
		}
		for range r.Intn(4) {
			p = spoil(r, p)
		}
		if want, is := direct(p); is {
			used++
			wantView(t, p, want)
		} else {
			none++
			wantMalformed(t, p)
		}
	}
	if used < 5000 || none < 5000 {
		t.Error(used, none)
	}
}

// P14.2: a page has the slots that it was given, wherever their records are.
func TestPlaced(t *testing.T) {
	r := rand.New(rand.NewSource(142))
	slots := 0
	for range 5000 {
		p, l := somePage(r)
		slots += len(l)
		got, e := Pairs(p)
		if len(got) != len(l) || e != api.OK || Len(p) != len(l) {
			t.Fatal(got, l, e)
		}
		for i, x := range l {
			if got[i] != x {
				t.Fatalf("%q %q", got[i], x)
			}
		}
	}
	if slots < 20000 {
		t.Error(slots)
	}
}
