package modes

import "ticketline/api"

// set says which modes are held. How often each one is held does not matter to what goes together with all of them, so that long lists are gone through only once.
type set [kinds]bool

// setOf returns the set of some modes.
func setOf(l []api.Mode) set {
	var s set
	for _, m := range l {
		s.add(m)
	}
	return s
}

// add adds a mode to a set; ModeNone stands for all that are none of the three, which go with nothing, either.
func (s *set) add(m api.Mode) {
	if !Valid(m) {
		m = api.ModeNone
	}
	s[m] = true
}

// takes reports whether a mode is one of the three, and goes together with each one of a set.
func (s set) takes(m api.Mode) bool {
	for held, is := range s {
		if is && !Fits(m, api.Mode(held)) {
			return false
		}
	}
	return Valid(m)
}
