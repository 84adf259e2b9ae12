package text

import (
	"errors"
	"slices"
	"strconv"
	"strings"

	"barograph/api"
)

// maxTimeText is how many bytes the text of a duration, and of a time, has at most.
const maxTimeText = 100

// Milliseconds of the units.
const (
	second = 1000
	minute = 60 * second
	hour   = 60 * minute
	day    = 24 * hour
	week   = 7 * day
	year   = 365 * day
)

// unit is one that a duration counts in.
type unit struct {
	name string
	ms   int64
}

// units are those that are written, from the greatest on.
func units() []unit {
	return []unit{{"d", day}, {"h", hour}, {"m", minute}, {"s", second}, {"ms", 1}}
}

// allUnits are those that are read, from the greatest on.
func allUnits() []unit { return append([]unit{{"y", year}, {"w", week}}, units()...) }

// Duration is milliseconds as a text.
func Duration(ms int64) (string, api.Errno) {
	if ms < 0 || ms > api.MaxTime {
		return "", api.ErrTextTime
	}
	if ms == 0 {
		return "0s", api.OK
	}
	s := ""
	for _, u := range units() {
		if n := ms / u.ms; n > 0 {
			s += strconv.FormatInt(n, 10) + u.name
		}
		ms %= u.ms
	}
	return s, api.OK
}

// ReadDuration are the milliseconds that a text tells.
func ReadDuration(s string) (int64, api.Errno) {
	r := reader{s: s}
	ms, err := r.duration()
	var f *fault
	if errors.As(err, &f) {
		return 0, f.errno
	}
	return ms, api.OK
}

// duration reads the whole string.
func (r *reader) duration() (int64, error) {
	if len(r.s) > maxTimeText {
		return 0, &fault{api.ErrTextTime, maxTimeText, nil}
	}
	var sum int64
	left := allUnits()
	for {
		start := r.at
		n, err := r.whole()
		if err == nil {
			sum, left, err = r.addUnits(sum, n, left)
		}
		if err != nil {
			return 0, &fault{api.ErrTextTime, start, err}
		}
		if r.isDone() {
			return sum, nil
		}
	}
}

// addUnits reads the unit of which there are n, adds them to a sum, and answers the smaller units too.
func (r *reader) addUnits(sum, n int64, from []unit) (int64, []unit, error) {
	start := r.at
	// A unit goes on up to the next number, so that an m isn't read where an ms stands.
	name := r.run(func(c byte) bool { return !isDigit(c) })
	i := slices.IndexFunc(from, func(u unit) bool { return u.name == name })
	if i < 0 {
		return 0, nil, &fault{api.ErrTextTime, start, nil}
	}
	sum, err := add(sum, n, from[i].ms)
	return sum, from[i+1:], err
}

// add adds n units to a sum.
func add(sum, n, ms int64) (int64, error) {
	// The product could go beyond 64 bits; the quotient can't.
	if n > (api.MaxTime-sum)/ms {
		return 0, api.ErrTextTime
	}
	return sum + n*ms, nil
}

// whole reads a whole number.
func (r *reader) whole() (int64, error) {
	start := r.at
	digits := r.run(isDigit)
	if digits == "" {
		return 0, r.refusal(api.ErrTextNumber)
	}
	n, err := strconv.ParseInt(digits, 10, 64)
	if err != nil {
		return 0, &fault{api.ErrTextNumber, start, err}
	}
	return n, nil
}

// Time is a time as seconds.
func Time(ms int64) (string, api.Errno) {
	if ms < -api.MaxTime || ms > api.MaxTime {
		return "", api.ErrTextTime
	}
	sign := ""
	if ms < 0 {
		sign, ms = "-", -ms
	}
	s := sign + strconv.FormatInt(ms/second, 10)
	rest := ms % second
	if rest == 0 {
		return s, api.OK
	}
	// One second more gives it all of its three digits.
	three := strconv.FormatInt(second+rest, 10)[1:]
	return s + "." + strings.TrimRight(three, "0"), api.OK
}

// ReadTime is the time that a text tells.
func ReadTime(s string) (int64, api.Errno) {
	r := reader{s: s}
	ms, err := r.time()
	var f *fault
	if errors.As(err, &f) {
		return 0, f.errno
	}
	return ms, api.OK
}

// time reads the whole string.
func (r *reader) time() (int64, error) {
	if len(r.s) > maxTimeText {
		return 0, &fault{api.ErrTextTime, maxTimeText, nil}
	}
	negative := r.skip("-")
	ms, err := r.seconds()
	if err == nil && !r.isDone() {
		err = r.refusal(api.ErrTextTime)
	}
	if err != nil {
		return 0, &fault{api.ErrTextTime, 0, err}
	}
	if negative {
		ms = -ms
	}
	return ms, nil
}

// seconds reads milliseconds that are told in seconds.
func (r *reader) seconds() (int64, error) {
	n, err := r.whole()
	if err != nil {
		return 0, err
	}
	var ms int64
	if r.skip(".") {
		ms, err = r.thousandths()
	}
	if err != nil {
		return 0, err
	}
	return add(ms, n, second)
}

// thousandths reads one to three digits behind a point.
func (r *reader) thousandths() (int64, error) {
	start := r.at
	v, err := r.whole()
	if err != nil {
		return 0, err
	}
	switch r.at - start {
	case 1:
		return v * 100, nil
	case 2:
		return v * 10, nil
	case 3:
		return v, nil
	}
	return 0, &fault{api.ErrTextTime, start, nil}
}
