package mem

import "ticketline/api"

// Once is an arena that allows one access, and notes it: an access of kind AccessNone is that none was made.
type Once struct {
	mem    *Mem
	access api.Access
}

// NewOnce returns an arena that allows one access of another one, or an error.
func NewOnce(m *Mem) (*Once, api.Errno) {
	if m.none() {
		return nil, api.ErrNil
	}
	return &Once{mem: m}, api.OK
}

// Load is that of the arena, as long as no access was made.
func (o *Once) Load(w int) (uint64, api.Errno) {
	did, e := o.do(load(w))
	return did.Before, e
}

// Store is that of the arena, as long as no access was made.
func (o *Once) Store(w int, v uint64) api.Errno {
	_, e := o.do(store(w, v))
	return e
}

// CAS is that of the arena, as long as no access was made.
func (o *Once) CAS(w int, old, new uint64) (bool, api.Errno) {
	did, e := o.do(compareAndSwap(w, old, new))
	return e == api.OK && did.Before == old, e
}

// Swap is that of the arena, as long as no access was made.
func (o *Once) Swap(w int, v uint64) (uint64, api.Errno) {
	did, e := o.do(swap(w, v))
	return did.Before, e
}

// do makes an access of the arena and notes it; one that has an error is not noted, so that another one may follow.
func (o *Once) do(a api.Access) (api.Access, api.Errno) {
	if o.none() {
		return api.Access{}, api.ErrNil
	}
	if o.access.Kind != api.AccessNone {
		return api.Access{}, api.ErrBusy
	}
	did, e := o.mem.Do(a)
	if e == api.OK {
		o.access = did
	}
	return did, e
}

// Len is that of the arena.
func (o *Once) Len() int {
	if o.none() {
		return 0
	}
	return o.mem.Len()
}

// Access returns the access that was made.
func (o *Once) Access() api.Access {
	if o.none() {
		return api.Access{}
	}
	return o.access
}

// none reports whether a Once is nil or zero.
func (o *Once) none() bool { return o == nil || o.mem == nil }
