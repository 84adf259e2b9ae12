package text

import (
	"errors"
	"unicode/utf8"

	"barograph/api"
)

// Quote is a text between quotes.
func Quote(s string) string {
	const hex = "0123456789abcdef"
	b := []byte{'"'}
	for i := range len(s) {
		switch c := s[i]; {
		case c == '"' || c == '\\':
			b = append(b, '\\', c)
		case c == '\n':
			b = append(b, `\n`...)
		case c == '\r':
			b = append(b, `\r`...)
		case c == '\t':
			b = append(b, `\t`...)
		case c < ' ' || c > '~':
			b = append(b, '\\', 'x', hex[c>>4], hex[c&15])
		default:
			b = append(b, c)
		}
	}
	return string(append(b, '"'))
}

// Unquote is the text between quotes.
func Unquote(s string) (string, api.Errno, int) {
	r := reader{s: s}
	b, err := r.quoted()
	// An escape wraps the end that it meets: there the end is what is told, and not where the escape begins.
	var end *ended
	if errors.As(err, &end) {
		return "", api.ErrTextQuote, end.at
	}
	var f *fault
	if errors.As(err, &f) {
		return "", f.errno, f.at
	}
	return string(b), api.OK, r.at
}

// quoted reads up to the closing quote.
func (r *reader) quoted() ([]byte, error) {
	quote, err := r.next()
	if err != nil {
		return nil, err
	}
	if quote != '"' && quote != '\'' && quote != '`' {
		return nil, &fault{api.ErrTextQuote, 0, nil}
	}
	var b []byte
	for {
		start := r.at
		c, err := r.next()
		switch {
		case err != nil:
			return nil, err
		case c == quote:
			return b, nil
		case quote == '`':
			b = append(b, c)
		case c == '\n':
			return nil, &fault{api.ErrTextQuote, start, nil}
		case c == '\\':
			if b, err = r.escape(b); err != nil {
				return nil, &fault{api.ErrTextQuote, start, err}
			}
		default:
			b = append(b, c)
		}
	}
}

// escape reads what stands behind a backslash, and appends to b what both stand for.
func (r *reader) escape(b []byte) ([]byte, error) {
	c, err := r.next()
	if err != nil {
		return nil, err
	}
	digits := 4
	switch c {
	case '\\', '\'', '"':
	case 'a':
		c = '\a'
	case 'b':
		c = '\b'
	case 'f':
		c = '\f'
	case 'n':
		c = '\n'
	case 'r':
		c = '\r'
	case 't':
		c = '\t'
	case 'v':
		c = '\v'
	case 'x':
		return r.byteOf(b, 2, 16)
	case 'U':
		digits = 8
		fallthrough
	case 'u':
		return r.codePoint(b, digits)
	case '0', '1', '2', '3', '4', '5', '6', '7':
		// It is the first one of the three.
		r.at--
		return r.byteOf(b, 3, 8)
	default:
		return nil, &fault{api.ErrTextQuote, r.at - 1, nil}
	}
	return append(b, c), nil
}

// byteOf reads a byte's value.
func (r *reader) byteOf(b []byte, digits int, base uint32) ([]byte, error) {
	v, err := r.digits(digits, base)
	if err == nil && v > 255 {
		err = api.ErrTextQuote
	}
	return append(b, byte(v)), err
}

// codePoint reads a code point's value.
func (r *reader) codePoint(b []byte, digits int) ([]byte, error) {
	v, err := r.digits(digits, 16)
	// What has no room in a rune comes to lie below 0, and isn't valid either.
	if err == nil && !utf8.ValidRune(rune(v)) {
		err = api.ErrTextQuote
	}
	return utf8.AppendRune(b, rune(v)), err
}

// digits reads so many digits, 8 at most.
func (r *reader) digits(n int, base uint32) (uint32, error) {
	var v uint32
	for range n {
		c, err := r.next()
		if err != nil {
			return 0, err
		}
		if digitOf(c) >= base {
			return 0, &fault{api.ErrTextQuote, r.at - 1, nil}
		}
		v = v*base + digitOf(c)
	}
	return v, nil
}
