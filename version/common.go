package version

import (
	"slices"

	"ticketline/api"
)

// stage is which of its steps a program makes next.
type stage int

const (
	unmade stage = iota // a zero program: none that was made by a constructor
	lookFirst
	makeOdd // in Write only
	oneWord
	versionAgain
	ended
)

// common is what both programs have: where the version and the words are, the words that were read, or are to be written, the index of the next one, which step comes next, what the version was in the first step, and the result.
type common struct {
	version, from int
	words         []uint64
	at            int
	next          stage
	was, result   uint64
}

// begin returns a program for so many words at its first step, or an error.
func begin(version, from, many int) (common, api.Errno) {
	if many < 0 || many > MaxWords || version < 0 || version >= api.MaxWords {
		return common{}, api.ErrArg
	}
	if many > 0 && !mayBe(version, from, many) {
		return common{}, api.ErrArg
	}
	return common{version: version, from: from, words: make([]uint64, many), next: lookFirst}, api.OK
}

// mayBe reports whether there may be so many words from one on, of which none is the version.
func mayBe(version, from, many int) bool {
	if from < 0 || from > api.MaxWords-many {
		return false
	}
	return version < from || version >= from+many
}

// run makes a step of a program, if there is one to be made.
func (c *common) run(step func(api.Memory) (bool, api.Errno), m api.Memory) (waits bool, e api.Errno) {
	if c.none() || m == nil {
		return false, api.ErrNil
	}
	if c.done() {
		return false, api.ErrEnd
	}
	defer func() {
		if recover() != nil { // a Memory of another package may have nothing behind its interface
			waits, e = false, api.ErrNil
		}
	}()
	return step(m)
}

// word returns which word the next step accesses.
func (c *common) word() int {
	if c.next == oneWord {
		return c.from + c.at
	}
	return c.version
}

// goOn goes on with the next word, or with the version behind the last one.
func (c *common) goOn() {
	if c.at < len(c.words) {
		c.next = oneWord
	} else {
		c.next = versionAgain
	}
}

// end ends a program.
func (c *common) end(result uint64) { c.next, c.result = ended, result }

// copied returns what goes on independently.
func (c common) copied() common {
	c.words = slices.Clone(c.words)
	return c
}

// done reports whether a program has ended; one that was never made has nothing more to do.
func (c *common) done() bool { return c.none() || c.next == ended }

// none reports whether a program is zero.
func (c *common) none() bool { return c.next == unmade }
