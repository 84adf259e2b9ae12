package text

import (
	"errors"
	"math"
	"strconv"
	"strings"

	"barograph/api"
	"barograph/num"
)

// maxNumber is how many bytes the text of a number has at most.
const maxNumber = 1000

// maxExponent is beyond what all the digits of a number could make up for: a greater one changes nothing.
const maxExponent = 10 * maxNumber

// The point stands among the digits, or beside them, as long as it is no farther from the first one.
const (
	leastPoint = -5
	mostPoint  = 21
)

// Show is a number, by the fewest digits.
func Show(a api.Num) string {
	sign := ""
	if num.Order(a, 0) < 0 {
		sign = "-"
	}
	order, isNumber := num.Cmp(a, 0)
	switch {
	case !isNumber:
		return "NaN"
	case order == 0:
		return sign + "0"
	case num.IsInf(a) && sign == "":
		return "+Inf"
	case num.IsInf(a):
		return "-Inf"
	}
	return sign + withPoint(shortest(num.Abs(a)))
}

// shortest are the fewest digits of a finite number above 0, and where the point stands: behind so many of them.
func shortest(a api.Num) (digits string, point int) {
	x := math.Float64frombits(uint64(a))
	mantissa, exponent, _ := strings.Cut(strconv.FormatFloat(x, 'e', -1, 64), "e")
	e, _ := strconv.Atoi(exponent)
	// The library has the point behind the first digit.
	return strings.Replace(mantissa, ".", "", 1), e + 1
}

// withPoint writes a number by its digits.
func withPoint(digits string, point int) string {
	n := len(digits)
	switch {
	case point < leastPoint || point > mostPoint:
		return withExponent(digits, point-1)
	case point <= 0:
		return "0." + strings.Repeat("0", -point) + digits
	case point < n:
		return digits[:point] + "." + digits[point:]
	}
	return digits + strings.Repeat("0", point-n)
}

// withExponent writes a number whose point stands behind its first digit.
func withExponent(digits string, e int) string {
	s := digits[:1]
	if len(digits) > 1 {
		s += "." + digits[1:]
	}
	if e < 0 {
		return s + "e-" + strconv.Itoa(-e)
	}
	return s + "e+" + strconv.Itoa(e)
}

// Number is the number that a text tells.
func Number(s string) (api.Num, api.Errno) {
	r := reader{s: s}
	a, err := r.number()
	var f *fault
	if errors.As(err, &f) {
		return 0, f.errno
	}
	return a, api.OK
}

// number reads the whole string.
func (r *reader) number() (api.Num, error) {
	if len(r.s) > maxNumber {
		return 0, &fault{api.ErrTextNumber, maxNumber, nil}
	}
	negative := r.sign()
	a, err := r.unsigned()
	if err == nil && !r.isDone() {
		err = r.refusal(api.ErrTextNumber)
	}
	if err != nil {
		return 0, &fault{api.ErrTextNumber, 0, err}
	}
	if negative {
		a = num.Neg(a)
	}
	return a, nil
}

// sign reads a sign if there is one, and tells whether it is that of a negative number.
func (r *reader) sign() bool {
	if r.skip("-") {
		return true
	}
	r.skip("+")
	return false
}

// unsigned reads a number without its sign.
func (r *reader) unsigned() (api.Num, error) {
	switch {
	case r.word("infinity"), r.word("inf"):
		return num.Inf(false), nil
	case r.word("nan"):
		return num.NaN(), nil
	case r.word("0x"):
		return r.hexadecimal()
	}
	return r.decimal()
}

// word reads a word, which is told in lower case and may come in any, and tells whether it is there.
func (r *reader) word(lower string) bool {
	if len(r.s)-r.at < len(lower) {
		return false
	}
	for i := range len(lower) {
		c := r.s[r.at+i]
		if 'A' <= c && c <= 'Z' {
			c += 'a' - 'A'
		}
		if c != lower[i] {
			return false
		}
	}
	r.at += len(lower)
	return true
}

// hexadecimal reads an integer behind its 0x.
func (r *reader) hexadecimal() (api.Num, error) {
	digits := r.run(isHexDigit)
	if digits == "" {
		return 0, r.refusal(api.ErrTextNumber)
	}
	// To the library it is a number with a binary exponent, which may not lack.
	return rounded("0x" + digits + "p0"), nil
}

// decimal reads digits, with a point and an exponent or without.
func (r *reader) decimal() (api.Num, error) {
	whole := r.run(isDigit)
	fraction := ""
	if r.skip(".") {
		fraction = r.run(isDigit)
	}
	if whole+fraction == "" {
		return 0, r.refusal(api.ErrTextNumber)
	}
	e := 0
	if r.skip("eE") {
		var err error
		if e, err = r.exponent(); err != nil {
			return 0, err
		}
	}
	// The library loses count of digits ahead of the point if there are more than 800 of them, so all stand behind it.
	return rounded("." + whole + fraction + "e" + strconv.Itoa(e+len(whole))), nil
}

// exponent reads one behind its e.
func (r *reader) exponent() (int, error) {
	negative := r.sign()
	digits := r.run(isDigit)
	if digits == "" {
		return 0, r.refusal(api.ErrTextNumber)
	}
	e, err := strconv.Atoi(digits)
	if err != nil || e > maxExponent {
		e = maxExponent
	}
	if negative {
		e = -e
	}
	return e, nil
}

// rounded is for a text that has the form of a number: its error only tells that it is too great, and comes with the infinity.
func rounded(s string) api.Num {
	x, _ := strconv.ParseFloat(s, 64)
	return api.Num(math.Float64bits(x))
}
