package json

import (
	"slices"

	"vouchsafe/api"
	"vouchsafe/utf"
)

// parser reads values; deep is how deep its lists and objects stand.
type parser struct {
	cursor
	deep int
}

// Parse reads a text as a tree.
func Parse(text string) (api.Value, api.Errno) {
	if len(text) > api.MaxText {
		return api.Value{}, api.ErrLong
	}
	if !utf.Right([]byte(text)) {
		return api.Value{}, api.ErrForm
	}
	p := &parser{cursor: cursor{text: text}}
	p.blanks()
	v, e := p.value()
	if e != api.OK {
		return api.Value{}, e
	}
	p.blanks()
	if !p.ended() {
		return api.Value{}, api.ErrForm
	}
	return v, api.OK
}

func (p *parser) value() (api.Value, api.Errno) {
	switch c := p.peek(); {
	case c == 'n':
		return p.plain("null", api.Null)
	case c == 't':
		return p.plain("true", api.True)
	case c == 'f':
		return p.plain("false", api.False)
	case c == '-' || c >= '0' && c <= '9':
		return p.number()
	case c == '"':
		s, e := p.quoted()
		if e != api.OK {
			return api.Value{}, e
		}
		return api.Value{Kind: api.Text, Text: s}, api.OK
	case c == '[':
		return p.nested(p.list)
	case c == '{':
		return p.nested(p.object)
	}
	return api.Value{}, api.ErrForm
}

func (p *parser) plain(word string, kind int) (api.Value, api.Errno) {
	if !p.word(word) {
		return api.Value{}, api.ErrForm
	}
	return api.Value{Kind: kind}, api.OK
}

func (p *parser) number() (api.Value, api.Errno) {
	minus := p.take('-')
	if p.peek() == '0' {
		p.take('0')
		if minus {
			return api.Value{}, api.ErrForm
		}
		return api.Value{Kind: api.Number}, api.OK
	}
	digits := p.digits()
	if digits == "" {
		return api.Value{}, api.ErrForm
	}
	n := 0
	for i := range len(digits) {
		n = n*10 + int(digits[i]-'0')
		if n > api.MaxInt {
			return api.Value{}, api.ErrRange
		}
	}
	if minus {
		n = -n
	}
	return api.Value{Kind: api.Number, Num: n}, api.OK
}

// nested reads a list or an object one step deeper than what is around it.
func (p *parser) nested(read func() (api.Value, api.Errno)) (api.Value, api.Errno) {
	if p.deep == api.MaxNest {
		return api.Value{}, api.ErrDeep
	}
	p.deep++
	v, e := read()
	p.deep--
	if e != api.OK {
		return api.Value{}, e
	}
	return v, api.OK
}

// members reads what stands between two brackets, with commas between.
func (p *parser) members(first, last byte, one func() api.Errno) api.Errno {
	p.take(first)
	p.blanks()
	if p.take(last) {
		return api.OK
	}
	for {
		p.blanks()
		if e := one(); e != api.OK {
			return e
		}
		p.blanks()
		if p.take(last) {
			return api.OK
		}
		if !p.take(',') {
			return api.ErrForm
		}
	}
}

func (p *parser) list() (api.Value, api.Errno) {
	v := api.Value{Kind: api.List}
	e := p.members('[', ']', func() api.Errno {
		x, e := p.value()
		v.Items = append(v.Items, x)
		return e
	})
	return v, e
}

func (p *parser) object() (api.Value, api.Errno) {
	v := api.Value{Kind: api.Object}
	e := p.members('{', '}', func() api.Errno { return p.pair(&v) })
	return v, e
}

// pair reads a name, a colon and a value into an object.
func (p *parser) pair(v *api.Value) api.Errno {
	if p.peek() != '"' {
		return api.ErrForm
	}
	name, e := p.quoted()
	if e != api.OK {
		return e
	}
	at, twice := slices.BinarySearch(v.Names, name)
	if twice {
		return api.ErrTwice
	}
	p.blanks()
	if !p.take(':') {
		return api.ErrForm
	}
	p.blanks()
	x, e := p.value()
	if e != api.OK {
		return e
	}
	v.Names = slices.Insert(v.Names, at, name)
	v.Items = slices.Insert(v.Items, at, x)
	return api.OK
}

// quoted reads a text from its first " to its last one.
func (p *parser) quoted() (string, api.Errno) {
	p.take('"')
	var b []byte
	for !p.ended() {
		c := p.peek()
		switch {
		case c < 32:
			return "", api.ErrForm
		case c == '"':
			p.take(c)
			return string(b), api.OK
		case c == '\\':
			p.take(c)
			more, e := p.escape()
			if e != api.OK {
				return "", e
			}
			b = append(b, more...)
		default:
			p.take(c)
			b = append(b, c)
		}
	}
	return "", api.ErrForm
}

// escape reads what stands behind a \, and tells its bytes.
func (p *parser) escape() ([]byte, api.Errno) {
	c := p.peek()
	if p.take('u') {
		r, e := p.escapedRune()
		if e != api.OK {
			return nil, e
		}
		return utf.Encode([]rune{r})
	}
	if !p.take(c) {
		return nil, api.ErrForm
	}
	switch c {
	case '"', '\\', '/':
		return []byte{c}, api.OK
	case 'b':
		return []byte{8}, api.OK
	case 'f':
		return []byte{12}, api.OK
	case 'n':
		return []byte{10}, api.OK
	case 'r':
		return []byte{13}, api.OK
	case 't':
		return []byte{9}, api.OK
	}
	return nil, api.ErrForm
}

// escapedRune reads the four digits behind \u, and, if they are a high surrogate's, the low one's escape.
func (p *parser) escapedRune() (rune, api.Errno) {
	r, ok := p.four()
	if !ok {
		return 0, api.ErrForm
	}
	if r < 0xd800 || r > 0xdbff {
		return r, api.OK
	}
	if !p.take('\\') || !p.take('u') {
		return 0, api.ErrForm
	}
	low, ok := p.four()
	if !ok || low < 0xdc00 || low > 0xdfff {
		return 0, api.ErrForm
	}
	return 0x10000 + (r-0xd800)<<10 + (low - 0xdc00), api.OK
}

func (p *parser) four() (rune, bool) {
	var r rune
	for range 4 {
		c := p.peek()
		d := digit(c)
		if d < 0 || !p.take(c) {
			return 0, false
		}
		r = r<<4 | d
	}
	return r, true
}

// digit is the number of a digit of base sixteen; -1 of another byte.
func digit(c byte) rune {
	switch {
	case c >= '0' && c <= '9':
		return rune(c - '0')
	case c >= 'a' && c <= 'f':
		return rune(c-'a') + 10
	case c >= 'A' && c <= 'F':
		return rune(c-'A') + 10
	}
	return -1
}
