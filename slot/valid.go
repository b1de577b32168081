package slot

import "ticketline/api"

// The numbers of pages, of which a child has one, and a right link one or 0.
const (
	firstPage = 1
	lastPage  = 511
)

// wordBytes is how many bytes a word has, and so the value of a slot that is the number of a child.
const wordBytes = 8

// Valid reports whether words are those of a used page.
func Valid(p api.Page) bool {
	return headFits(&p) && slotsFit(&p) && recordsApart(&p)
}

// headFits reports whether the words before the directory are those of a used page.
func headFits(p *api.Page) bool {
	switch {
	case p[Kind] < leaf+1 || p[Kind] > api.MaxHeight:
		return false
	case p[Right] > lastPage:
		return false
	case p[Top] < First || p[Top] > api.PageWords || p[Count] > p[Top]-First: // a sum with the count could overflow
		return false
	}
	return fenceFits(p[Low:High]) && fenceFits(p[High:First])
}

// fenceFits reports whether words are those of a fence.
func fenceFits(l []uint64) bool {
	return l[0] <= api.MaxKey && packed(l[1:], int(l[0]))
}

// slotsFit reports whether each slot is one of a used page, if its head is that of one.
func slotsFit(p *api.Page) bool {
	for i := range lenOf(p) {
		r := recordOf(p, i)
		if r.at < int(p[Top]) || r.end() > api.PageWords {
			return false
		}
		if !keyFits(p, i, r) || !valueFits(p, r) {
			return false
		}
	}
	return true
}

// keyFits reports whether the key of the slot with an index may be in a page.
func keyFits(p *api.Page, i int, r record) bool {
	if r.key == 0 {
		return i == 0 && levelOf(p) > leaf
	}
	return r.key <= api.MaxKey && packed(p[r.at:r.middle()], r.key)
}

// valueFits reports whether the value of a slot may be in a page.
func valueFits(p *api.Page, r record) bool {
	if levelOf(p) == leaf {
		return r.value <= api.MaxValue && packed(p[r.middle():r.end()], r.value)
	}
	if r.value != wordBytes { // without bytes the value could have no word in the page
		return false
	}
	child := p[r.middle()]
	return child >= firstPage && child <= lastPage
}

// recordsApart reports whether no word is in the records of two slots, if all of them are in the page.
func recordsApart(p *api.Page) bool {
	var taken [api.PageWords]bool
	for i := range lenOf(p) {
		r := recordOf(p, i)
		for w := r.at; w < r.end(); w++ {
			if taken[w] {
				return false
			}
			taken[w] = true
		}
	}
	return true
}

// packed reports whether words begin with so many bytes, and are 0 behind them.
func packed(l []uint64, bytes int) bool {
	for _, w := range l {
		if w<<(8*max(bytes, 0)) != 0 { // of a word that is full nothing is left
			return false
		}
		bytes -= wordBytes
	}
	return true
}
