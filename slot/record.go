package slot

import (
	"ticketline/api"
	"ticketline/keys"
)

// leaf is the level of a leaf.
const leaf = 0

// The parts of a directory's word: where the record begins, and below that a byte for each of the two lengths.
const (
	atShift  = 16
	keyShift = 8
	lenMask  = 1<<keyShift - 1
)

// record is the word with which the record of a slot begins, and how many bytes its key and its value have.
type record struct{ at, key, value int }

// recordOf returns what the directory says of the slot with an index.
func recordOf(p *api.Page, i int) record {
	w := p[First+i]
	return record{at: int(w >> atShift), key: int(w >> keyShift & lenMask), value: int(w & lenMask)}
}

// words returns how many words a record has.
func (r record) words() int { return keys.Words(r.key) + keys.Words(r.value) }

// cost returns how many words a slot with such a record costs: it has one in the directory, too.
func (r record) cost() int { return 1 + r.words() }

// middle returns the word behind the key of a record, with which its value begins.
func (r record) middle() int { return r.at + keys.Words(r.key) }

// end returns the word behind a record.
func (r record) end() int { return r.at + r.words() }

// keyIn returns the key of a record of a used page.
func (r record) keyIn(p *api.Page) string { return text(p[r.at:r.middle()], r.key) }

// valueIn returns the value of a record of a used page.
func (r record) valueIn(p *api.Page) string { return text(p[r.middle():r.end()], r.value) }

// levelOf returns the level of a used page.
func levelOf(p *api.Page) int { return int(p[Kind]) - 1 }

// lenOf returns how many slots a used page has.
func lenOf(p *api.Page) int { return int(p[Count]) }

// setFence writes a fence, which is 0 before.
func setFence(l []uint64, s string) {
	words, _ := keys.Pack(s) // a fence is never too long for Pack
	l[0] = uint64(len(s))
	copy(l[1:], words)
}

// fenceOf returns a fence of a used page.
func fenceOf(l []uint64) string {
	n := int(l[0])
	return text(l[1:1+keys.Words(n)], n)
}

// text returns the string of so many bytes of words of a used page.
func text(l []uint64, bytes int) string {
	s, _ := keys.Unpack(l, bytes) // in a used page these are the words of a string
	return s
}
