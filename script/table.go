package script

import "ticketline/api"

// A first byte says its kind by its remainder modulo kinds, and its thread by how often it has kinds. Several bytes say a pick, and several a request: these are the least ones, for the thread 0.
const (
	kinds = 8

	pickByte  = 0
	tickByte  = 3
	roundByte = 4
	startByte = 5
)

// How many numbers of steps, of rounds, and of verbs a second byte can say.
const (
	steps  = 16
	rounds = 8
	verbs  = 8
)

// parts says for which parts of a request there are bytes; they come in this order.
type parts struct{ key, old, value, n bool }

// needs returns the parts that a verb needs.
func needs(v api.Verb) parts {
	switch v {
	case api.VerbGet, api.VerbDelete:
		return parts{key: true}
	case api.VerbPut, api.VerbInsert:
		return parts{key: true, value: true}
	case api.VerbSwap:
		return parts{key: true, old: true, value: true}
	case api.VerbScan:
		return parts{key: true, n: true}
	}
	return parts{}
}
