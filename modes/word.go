package modes

import "ticketline/api"

// words are the words of the modes; ModeNone has none.
var words = [kinds]string{
	api.ModeShared:    "shared",
	api.ModeUpdate:    "update",
	api.ModeExclusive: "exclusive",
}

// Word returns the word of a mode, or an error.
func Word(m api.Mode) (string, api.Errno) {
	if !Valid(m) {
		return "", api.ErrArg
	}
	return words[m], api.OK
}

// ByWord returns the mode with a word, or an error.
func ByWord(s string) (api.Mode, api.Errno) {
	for m := api.ModeShared; m < kinds; m++ {
		if s == words[m] {
			return m, api.OK
		}
	}
	return api.ModeNone, api.ErrFormat
}
