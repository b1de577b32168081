package script

import "ticketline/api"

// reader is bytes that are read from the front.
type reader struct{ rest []byte }

// next reads a byte; one that is missing is 0.
func (r *reader) next() byte {
	if len(r.rest) == 0 {
		return 0
	}
	x := r.rest[0]
	r.rest = r.rest[1:]
	return x
}

// op reads an operation, for so many threads.
func (r *reader) op(threads int) api.Op {
	x := int(r.next())
	p := int(r.next())
	thread := x / kinds % threads
	switch kind := x % kinds; {
	case kind >= startByte:
		return r.request(thread, p)
	case kind == roundByte:
		return api.Op{Kind: api.OpRound, N: p%rounds + 1}
	case kind == tickByte:
		return api.Op{Kind: api.OpTick, N: p}
	}
	return api.Op{Kind: api.OpPick, Thread: thread, N: p%steps + 1}
}

// request reads what is behind the second byte of a request.
func (r *reader) request(thread, p int) api.Op {
	o := api.Op{Kind: api.OpStart, Thread: thread, Verb: api.Verb(p%verbs + 1), Ticks: p / verbs}
	need := needs(o.Verb)
	if need.key {
		o.Key = Key(r.next())
	}
	if need.old {
		o.Old = Value(r.next())
	}
	if need.value {
		o.Value = Value(r.next())
	}
	if need.n {
		o.N = int(r.next())%api.ScanMax + 1
	}
	return o
}
