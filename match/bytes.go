package match

import "barograph/api"

// Encode is l as bytes.
func Encode(l []api.Matcher) ([]byte, api.Errno) {
	if len(l) > api.MaxMatchers {
		return nil, api.ErrArg
	}
	b := []byte{byte(len(l))}
	for _, m := range l {
		if errno := Check(m); errno != api.OK {
			return nil, errno
		}
		b = append(b, m.Kind)
		b = appendText(b, m.Name)
		b = appendText(b, m.Value)
	}
	return b, api.OK
}

// appendText appends a name, or a value, behind its length.
func appendText(b []byte, s string) []byte {
	b = append(b, byte(len(s)), byte(len(s)>>8))
	return append(b, s...)
}

// Decode is what bytes begin with, and how many these are.
func Decode(b []byte) ([]api.Matcher, int, api.Errno) {
	if len(b) == 0 || b[0] > api.MaxMatchers {
		return nil, 0, api.ErrMatchForm
	}
	var l []api.Matcher
	rest := b[1:]
	for range b[0] {
		m, behind, ok := cutMatcher(rest)
		if !ok || Check(m) != api.OK {
			return nil, 0, api.ErrMatchForm
		}
		l = append(l, m)
		rest = behind
	}
	return l, len(b) - len(rest), api.OK
}

// cutMatcher cuts off what b begins with, a matcher or not; false: b ends before that.
func cutMatcher(b []byte) (m api.Matcher, behind []byte, ok bool) {
	if len(b) == 0 {
		return api.Matcher{}, nil, false
	}
	name, behind, hasName := cutText(b[1:])
	value, behind, hasValue := cutText(behind)
	if !hasName || !hasValue {
		return api.Matcher{}, nil, false
	}
	return api.Matcher{Kind: b[0], Name: name, Value: value}, behind, true
}

// cutText cuts off the text that b begins with; false: b ends before that.
func cutText(b []byte) (s string, behind []byte, ok bool) {
	if len(b) < 2 {
		return "", nil, false
	}
	end := 2 + int(b[0]) + int(b[1])<<8
	if end > len(b) {
		return "", nil, false
	}
	return string(b[2:end]), b[end:], true
}
