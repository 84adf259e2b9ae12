package labels

import "barograph/api"

// Encode is l as bytes.
func Encode(l []api.Label) ([]byte, api.Errno) {
	if errno := Check(l); errno != api.OK {
		return nil, errno
	}
	b := []byte{byte(len(l))}
	for _, x := range l {
		b = appendText(b, x.Name)
		b = appendText(b, x.Value)
	}
	return b, api.OK
}

// appendText appends a name, or a value, behind its length.
func appendText(b []byte, s string) []byte {
	b = append(b, byte(len(s)), byte(len(s)>>8))
	return append(b, s...)
}

// Decode is the set that bytes begin with, and how many these are.
func Decode(b []byte) ([]api.Label, int, api.Errno) {
	if len(b) == 0 {
		return nil, 0, api.ErrLabelsForm
	}
	var l []api.Label
	rest := b[1:]
	for range b[0] {
		name, behind, hasName := cutText(rest)
		value, behind, hasValue := cutText(behind)
		if !hasName || !hasValue {
			return nil, 0, api.ErrLabelsForm
		}
		l = append(l, api.Label{Name: name, Value: value})
		rest = behind
	}
	if Check(l) != api.OK {
		return nil, 0, api.ErrLabelsForm
	}
	return l, len(b) - len(rest), api.OK
}

// cutText cuts off the text that b begins with; false: b ends before that.
func cutText(b []byte) (s string, behind []byte, ok bool) {
	if len(b) < 2 {
		return "", nil, false
	}
	end := 2 + int(b[0]) + int(b[1])<<8
	if end > len(b) {
		return "", nil, false
	}
	return string(b[2:end]), b[end:], true
}
