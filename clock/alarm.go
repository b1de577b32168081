package clock

import (
	"cmp"

	"ticketline/api"
)

// alarm is an api.Alarm that can be compared.
type alarm api.Alarm

// compare is the order of alarms.
func (a alarm) compare(o alarm) int {
	return cmp.Or(cmp.Compare(a.At, o.At), cmp.Compare(a.ID, o.ID))
}

// given returns alarms as they are given to callers, who may change them.
func given(l []alarm) []api.Alarm {
	out := make([]api.Alarm, len(l))
	for i, a := range l {
		out[i] = api.Alarm(a)
	}
	return out
}
