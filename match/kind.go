package match

import (
	"barograph/api"
	"barograph/regex"
)

// condition tells whether a value is one that is asked for.
type condition func(value string) bool

// kind is what the matchers of one kind have in common.
type kind struct {
	number uint8
	sign   string
	asks   func(wanted string) (condition, api.Errno) // makes the condition of what a matcher's Value says
}

// kinds are the four.
func kinds() []kind {
	return []kind{
		{api.MatchEq, "=", equals},
		{api.MatchNe, "!=", opposite(equals)},
		{api.MatchRe, "=~", fits},
		{api.MatchNr, "!~", opposite(fits)},
	}
}

// kindOf is that of m; false: it has none of the four.
func kindOf(m api.Matcher) (kind, bool) {
	for _, k := range kinds() {
		if k.number == m.Kind {
			return k, true
		}
	}
	return kind{}, false
}

// equals asks for that value.
func equals(wanted string) (condition, api.Errno) {
	return func(value string) bool { return value == wanted }, api.OK
}

// fits asks for the values that a pattern matches.
func fits(pattern string) (condition, api.Errno) {
	r, errno, _ := regex.Compile(pattern)
	if errno != api.OK {
		return nil, errno
	}
	return r.Match, api.OK
}

// opposite asks for all other values. What is wrong for the one is wrong for the other.
func opposite(asks func(wanted string) (condition, api.Errno)) func(wanted string) (condition, api.Errno) {
	return func(wanted string) (condition, api.Errno) {
		holds, errno := asks(wanted)
		if errno != api.OK {
			return nil, errno
		}
		return func(value string) bool { return !holds(value) }, api.OK
	}
}
