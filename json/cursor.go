package json

// cursor goes through a text byte by byte.
type cursor struct {
	text string
	at   int
}

// peek is the next byte; 0 at the end, which no grammar's part begins with.
func (c *cursor) peek() byte {
	if c.at >= len(c.text) {
		return 0
	}
	return c.text[c.at]
}

func (c *cursor) ended() bool {
	return c.at >= len(c.text)
}

// take steps over a byte, if it is the next one.
func (c *cursor) take(b byte) bool {
	if c.ended() || c.text[c.at] != b {
		return false
	}
	c.at++
	return true
}

// word steps over a word, if it is next.
func (c *cursor) word(w string) bool {
	for i := range len(w) {
		if !c.take(w[i]) {
			return false
		}
	}
	return true
}

func (c *cursor) blanks() {
	for c.take(' ') || c.take('\t') || c.take('\n') || c.take('\r') {
	}
}

// digits steps over digits, and tells them.
func (c *cursor) digits() string {
	from := c.at
	for !c.ended() && c.text[c.at] >= '0' && c.text[c.at] <= '9' {
		c.at++
	}
	return c.text[from:c.at]
}
