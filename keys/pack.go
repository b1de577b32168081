package keys

import "ticketline/api"

// wordBytes is how many bytes a word has.
const wordBytes = 8

// Words returns how many words so many bytes have.
func Words(bytes int) int {
	if bytes <= 0 {
		return 0
	}
	return (bytes-1)/wordBytes + 1 // adding to so many bytes could overflow
}

// shift returns by how many bits the byte with an index is shifted in its word: the first one is the highest.
func shift(i int) int { return 8 * (wordBytes - 1 - i%wordBytes) }

// Pack returns the words of a string, or an error.
func Pack(s string) ([]uint64, api.Errno) {
	if len(s) > api.MaxValue {
		return nil, api.ErrLong
	}
	l := make([]uint64, Words(len(s)))
	for i := range len(s) {
		l[i/wordBytes] |= uint64(s[i]) << shift(i)
	}
	return l, api.OK
}

// Unpack returns the string of so many bytes of words, or an error.
func Unpack(l []uint64, bytes int) (string, api.Errno) {
	switch {
	case bytes < 0:
		return "", api.ErrArg
	case bytes > api.MaxValue:
		return "", api.ErrLong
	case len(l) != Words(bytes):
		return "", api.ErrMalformed
	}
	b := make([]byte, len(l)*wordBytes)
	for i := range b {
		b[i] = byte(l[i/wordBytes] >> shift(i))
	}
	for _, x := range b[bytes:] {
		if x != 0 {
			return "", api.ErrMalformed
		}
	}
	return string(b[:bytes]), api.OK
}
