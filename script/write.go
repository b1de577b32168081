package script

import "ticketline/api"

// write returns the shortest bytes of an operation, and whether it can be one of a script.
func write(o api.Op) ([]byte, bool) {
	b := shortest(o)
	// Parts that the operation does not need are not in its bytes, and numbers out of range and texts without a number are there as others: then what is read is another operation.
	said, _, e := Next(b, api.MaxThreads)
	if e != api.OK || said != o {
		return nil, false
	}
	return b, true
}

// shortest returns the shortest bytes of an operation, if it can be one of a script; otherwise none, or those of another one.
func shortest(o api.Op) []byte {
	thread := byte(o.Thread * kinds)
	switch o.Kind {
	case api.OpPick:
		return []byte{thread + pickByte, byte(o.N - 1)}
	case api.OpTick:
		return []byte{tickByte, byte(o.N)}
	case api.OpRound:
		return []byte{roundByte, byte(o.N - 1)}
	case api.OpStart:
		return shortestRequest(thread+startByte, o)
	}
	return nil
}

// shortestRequest is shortest, for a request, of which the first byte is known.
func shortestRequest(x byte, o api.Op) []byte {
	b := []byte{x, byte(o.Ticks*verbs + int(o.Verb) - 1)}
	need := needs(o.Verb)
	if need.key {
		b = append(b, keyNumber(o.Key))
	}
	if need.old {
		b = append(b, valueNumber(o.Old))
	}
	if need.value {
		b = append(b, valueNumber(o.Value))
	}
	if need.n {
		b = append(b, byte(o.N-1))
	}
	return b
}
