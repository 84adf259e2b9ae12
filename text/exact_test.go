package text_test

import (
	"math"
	"math/big"
	"sort"
	"strconv"
	"strings"
	"testing"

	"barograph/api"
)

// This file has what the chapters say of a number's value, of rounding, of the shortest digits and of the way to write them, word for word, by exact arithmetic; the other tests hold the package against it.

const (
	sign     api.Num = 1 << 63
	inf      api.Num = 0x7ff0000000000000
	theNaN   api.Num = 0x7ff8000000000001
	greatest api.Num = 0x7fefffffffffffff // the greatest finite number
	normal   api.Num = 0x0010000000000000 // the least normal number
	one      api.Num = 0x3ff0000000000000
)

// dice are numbers without a pattern, the same ones at every run.
type dice uint64

func (d *dice) number() uint64 {
	*d = *d*6364136223846793005 + 1442695040888963407
	return uint64(*d)>>33 ^ uint64(*d)<<31
}

func (d *dice) below(n int) int { return int(d.number() >> 3 % uint64(n)) }

// any is a number of any bits, NaNs and infinities among them.
func (d *dice) any() api.Num { return api.Num(d.number() ^ d.number()<<17) }

// finite is a number above 0, of any exponent.
func (d *dice) finite() api.Num {
	for {
		if a := d.any() &^ sign; a != 0 && a < inf {
			return a
		}
	}
}

// near is a number above 0 whose exponent is at most so far from that of 1.
func (d *dice) near(far int) api.Num {
	e := uint64(1023 + d.below(2*far+1) - far)
	return api.Num(e<<52 | d.number()&(1<<52-1))
}

func (d *dice) bytes(n int) string {
	b := make([]byte, n)
	for i := range b {
		b[i] = byte(d.number() >> 20)
	}
	return string(b)
}

func bitsOf(x float64) api.Num { return api.Num(math.Float64bits(x)) }

// powerOf is base^n.
func powerOf(base int64, n int) *big.Rat {
	size := int64(max(n, -n))
	x := new(big.Rat).SetInt(new(big.Int).Exp(big.NewInt(base), big.NewInt(size), nil))
	if n < 0 {
		x.Inv(x)
	}
	return x
}

// value is what the bits of a finite number tell.
func value(a api.Num) *big.Rat {
	e, f := int(a>>52&0x7ff), int64(a&(1<<52-1))
	x := new(big.Rat)
	if e == 0 {
		x.Mul(x.SetInt64(f), powerOf(2, -1074))
	} else {
		x.Mul(x.SetInt64(1<<52+f), powerOf(2, e-1075))
	}
	if a&sign != 0 {
		x.Neg(x)
	}
	return x
}

// bound is the number half way between a finite number from 0 on and the next one; behind the greatest one it is what rounding to the infinity begins at.
func bound(a api.Num) *big.Rat {
	if a == greatest {
		return new(big.Rat).Sub(powerOf(2, 1024), powerOf(2, 970))
	}
	x := new(big.Rat).Add(value(a), value(a+1))
	return x.Mul(x, big.NewRat(1, 2))
}

// roundsTo tells whether an exact number from 0 on, rounded, is a.
func roundsTo(x *big.Rat, a api.Num) bool {
	if a > inf {
		return false
	}
	if a > 0 {
		below := x.Cmp(bound(a - 1))
		if below < 0 || below == 0 && a&1 == 1 {
			return false
		}
	}
	if a == inf {
		return true
	}
	above := x.Cmp(bound(a))
	return above < 0 || above == 0 && a&1 == 0
}

// rounded is an exact number from 0 on, rounded; what the library answers is not believed without roundsTo.
func rounded(x *big.Rat) api.Num {
	f, _ := x.Float64()
	a := bitsOf(f)
	if !roundsTo(x, a) {
		panic("the reference does not round as the chapter says")
	}
	return a
}

// decimal is an integer times a power of ten.
type decimal struct {
	digits *big.Int
	e      int
}

func (d decimal) value() *big.Rat {
	x := new(big.Rat).SetInt(d.digits)
	return x.Mul(x, powerOf(10, d.e))
}

// around are the decimals of n digits next to an exact number above 0, up to it and from it on.
func around(x *big.Rat, n int) (below, above decimal) {
	f, _ := new(big.Float).SetRat(x).Float64()
	e := int(math.Floor(math.Log10(f))) - n + 1
	least, most := powerOf(10, n-1), powerOf(10, n)
	for {
		scaled := new(big.Rat).Mul(x, powerOf(10, -e))
		if scaled.Cmp(least) < 0 {
			e--
			continue
		}
		if scaled.Cmp(most) >= 0 {
			e++
			continue
		}
		digits, rest := new(big.Int).QuoRem(scaled.Num(), scaled.Denom(), new(big.Int))
		next := new(big.Int).Set(digits)
		if rest.Sign() > 0 {
			next.Add(next, big.NewInt(1))
		}
		return decimal{digits, e}, decimal{next, e}
	}
}

// best is, among the decimals of n digits that are a when they are rounded, the one that is nearest to it, and of two the even one; false: there is none.
func best(a api.Num, n int) (decimal, bool) {
	x := value(a)
	below, above := around(x, n)
	low, high := roundsTo(below.value(), a), roundsTo(above.value(), a)
	switch {
	case !low && !high:
		return decimal{}, false
	case !high:
		return below, true
	case !low:
		return above, true
	}
	order := new(big.Rat).Sub(x, below.value()).Cmp(new(big.Rat).Sub(above.value(), x))
	if order < 0 || order == 0 && below.digits.Bit(0) == 0 {
		return below, true
	}
	return above, true
}

// shortest are the digits d1 .. dn and the exponent k of a finite number above 0. If there is a decimal of n digits there is one of n + 1, with a nought behind them; and 17 are always enough.
func shortest(a api.Num) (string, int) {
	n := 1 + sort.Search(16, func(i int) bool {
		_, ok := best(a, i+1)
		return ok
	})
	d, ok := best(a, n)
	if !ok {
		panic("17 digits are not enough")
	}
	s := d.digits.String()
	return strings.TrimRight(s, "0"), len(s) + d.e
}

// written is the text of digits and an exponent.
func written(digits string, k int) string {
	n := len(digits)
	switch {
	case k >= 1 && k <= 21:
		for len(digits) < k {
			digits += "0"
		}
		if n > k {
			digits = digits[:k] + "." + digits[k:]
		}
		return digits
	case k >= -5 && k <= 0:
		for range -k {
			digits = "0" + digits
		}
		return "0." + digits
	}
	s := digits[:1]
	if n > 1 {
		s += "." + digits[1:]
	}
	if k-1 < 0 {
		return s + "e-" + strconv.Itoa(1-k)
	}
	return s + "e+" + strconv.Itoa(k-1)
}

// shown is the text of any number.
func shown(a api.Num) string {
	switch {
	case a&^sign > inf:
		return "NaN"
	case a == inf:
		return "+Inf"
	case a == inf|sign:
		return "-Inf"
	case a == 0:
		return "0"
	case a&sign != 0:
		return "-" + strings.TrimPrefix(shown(a&^sign), "-")
	}
	return written(shortest(a))
}

// edges are numbers from 0 on at which something changes.
func edges() []api.Num {
	all := []api.Num{0, 1, 2, 3, 4, 5, 6, 7, normal/2 - 1, normal / 2, normal/2 + 1, normal - 2, normal - 1, normal, normal + 1, normal + 2, greatest - 2, greatest - 1, greatest, inf}
	for n := -1074; n <= 1023; n++ {
		a := bitsOf(math.Ldexp(1, n))
		if n%8 == 0 || n < -1020 || n > 1020 {
			all = append(all, a-1, a+1)
		}
		all = append(all, a)
	}
	for n := -330; n <= 308; n++ {
		a := rounded(powerOf(10, n))
		if a > 1 {
			all = append(all, a-1)
		}
		all = append(all, a, a+1)
	}
	return all
}

// The rounding that the other tests believe in is the chapter's: the middle between two neighbours, what lies just beside it, and the bounds of what has room.
func TestRoundingOfTheReference(t *testing.T) {
	tiny := powerOf(2, -2000)
	for _, x := range []struct {
		exact *big.Rat
		want  api.Num
	}{
		{bound(0), 0},
		{powerOf(2, -1075), 0},
		{new(big.Rat).Add(bound(0), tiny), 1},
		{bound(1), 2},
		{new(big.Rat).Sub(bound(1), tiny), 1},
		{bound(one), one},
		{bound(one + 1), one + 2},
		{bound(one - 1), one},
		{bound(normal - 1), normal},
		{bound(greatest), inf},
		{new(big.Rat).Sub(bound(greatest), tiny), greatest},
		{powerOf(2, 1024), inf},
		{powerOf(2, 1023), 0x7fe0000000000000},
		{powerOf(2, -1074), 1},
	} {
		if got := rounded(x.exact); got != x.want {
			t.Errorf("%s: %x, want %x", x.exact.FloatString(30), got, x.want)
		}
		for _, beside := range []api.Num{x.want - 1, x.want + 1} {
			if beside < inf && roundsTo(x.exact, beside) {
				t.Errorf("%s: %x too", x.exact.FloatString(30), beside)
			}
		}
	}
}
