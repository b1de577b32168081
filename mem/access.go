package mem

import "ticketline/api"

// The four accesses, as those of both kinds of arenas ask for them.

func load(w int) api.Access { return api.Access{Kind: api.AccessLoad, Word: w} }

func store(w int, v uint64) api.Access {
	return api.Access{Kind: api.AccessStore, Word: w, After: v}
}

func compareAndSwap(w int, old, new uint64) api.Access {
	return api.Access{Kind: api.AccessCAS, Word: w, Before: old, After: new}
}

func swap(w int, v uint64) api.Access {
	return api.Access{Kind: api.AccessSwap, Word: w, After: v}
}
