// Package plain holds what several layers ask of the plainest values: words, and numbers of things or seconds.
package plain

const (
	maxWord = 64
	// Most is the greatest number of seconds, of a session, of a generation.
	Most = 1 << 40
)

// Word: is it 1 to 64 bytes from 33 to 126? Tokens, secrets, documents and types are such.
func Word(s string) bool {
	if len(s) < 1 || len(s) > maxWord {
		return false
	}
	for i := range len(s) {
		if s[i] < 33 || s[i] > 126 {
			return false
		}
	}
	return true
}

// Number: is it from the least one to Most?
func Number(n, least int) bool {
	return n >= least && n <= Most
}
