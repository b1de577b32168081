package script

import "strings"

// How many letters the first two bytes of a key can be, how many lengths keys have, and how many letters and lengths values have.
const (
	keyLetters   = 16
	keyLengths   = 23
	valueLetters = 26
	valueLengths = 41
)

// Key returns the key with a number.
func Key(n byte) string {
	return string([]byte{'a' + n/keyLetters, 'a' + n%keyLetters}) + strings.Repeat("x", int(n%keyLengths))
}

// Value returns the value with a number.
func Value(n byte) string {
	return strings.Repeat(string('a'+n%valueLetters), int(n%valueLengths))
}

// keyNumber returns the number of a key; of a text that is none, any number, which is that of another key.
func keyNumber(k string) byte {
	if len(k) < 2 {
		return 0
	}
	return (k[0]-'a')*keyLetters + k[1] - 'a'
}

// valueNumber returns the least number of a value; of a text that is none, 0, which is that of another value.
func valueNumber(v string) byte {
	for n := range 256 {
		if n%valueLengths == len(v) && Value(byte(n)) == v { // values of other lengths need not be made
			return byte(n)
		}
	}
	return 0
}
