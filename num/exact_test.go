package num_test

import (
	"math"
	"math/big"
	"testing"

	"barograph/api"
)

// This file has the chapter's numbers and operations, word for word, by exact arithmetic; the other tests hold the package against it.

const (
	sign     api.Num = 1 << 63
	inf      api.Num = 0x7ff0000000000000
	theNaN   api.Num = 0x7ff8000000000001
	greatest api.Num = 0x7fefffffffffffff // the greatest finite number
	normal   api.Num = 0x0010000000000000 // the least normal number
	one      api.Num = 0x3ff0000000000000
	half     api.Num = 0x3fe0000000000000
)

// dice are numbers without a pattern, the same ones at every run.
type dice uint64

func (d *dice) number() uint64 {
	*d = *d*6364136223846793005 + 1442695040888963407
	return uint64(*d)>>33 ^ uint64(*d)<<31
}

func (d *dice) below(n int) int { return int(d.number() >> 3 % uint64(n)) }

// any is a number of any bits, NaNs and infinities among them.
func (d *dice) any() api.Num {
	a := api.Num(d.number() ^ d.number()<<17)
	if d.below(16) == 0 {
		a |= 0x7ff << 52
	}
	return a
}

// finite is a number of any exponent.
func (d *dice) finite() api.Num {
	for {
		if a := d.any(); isFinite(a) {
			return a
		}
	}
}

// near is a number whose exponent is at most so far from that of 1, of few bits now and then.
func (d *dice) near(far int) api.Num {
	f := d.number() & (1<<52 - 1)
	if d.below(3) == 0 {
		f = f >> d.below(52) << d.below(52) & (1<<52 - 1)
	}
	e := uint64(1023 + d.below(2*far+1) - far)
	return api.Num(d.number()>>5&1<<63 | e<<52 | f)
}

func isNaN(a api.Num) bool    { return a>>52&0x7ff == 2047 && a&(1<<52-1) != 0 }
func isInf(a api.Num) bool    { return a>>52&0x7ff == 2047 && a&(1<<52-1) == 0 }
func isFinite(a api.Num) bool { return a>>52&0x7ff != 2047 }
func isZero(a api.Num) bool   { return a == 0 || a == sign }

// signOf is the sign bit alone.
func signOf(a api.Num) api.Num { return a & sign }

// edges are numbers at which something changes, of both signs, and NaNs of several bits.
func edges() []api.Num {
	positive := []api.Num{
		0, 1, 2, 3, normal/2 - 1, normal / 2, normal/2 + 1, normal - 2, normal - 1, normal, normal + 1, normal + 2, 2 * normal, 3*normal - 1, 3 * normal,
		greatest - 1, greatest, inf,
		one - 1, one, one + 1, half - 1, half, half + 1, 0x3ff8000000000000, 0x4000000000000000, 0x4004000000000000, 0x4008000000000000, 0x400c000000000000,
		0x3fb999999999999a, 0x3fc999999999999a, 0x3fd5555555555555, 0x400921fb54442d18, 0x3fe62e42fefa39ef,
		0x4340000000000000, 0x4330000000000000, 0x4320000000000000, 0x43e0000000000000, 0x43d0000000000000, // 2^53, 2^52, 2^51, 2^63, 2^62
		0x1ff0000000000000, 0x5fe0000000000000, 0x7c90000000000000, 0x7ca0000000000000, 0x7fe0000000000000, // 2^-512, 2^511, 2^970, 2^971, 2^1023
		0x0340000000000000, 0x0330000000000000, 0x0350000000000000,
	}
	for _, a := range []api.Num{0x4340000000000000, 0x4330000000000000, 0x4320000000000000, 0x43e0000000000000, 0x7c90000000000000, 0x7ca0000000000000, 0x7fe0000000000000, 0x1ff0000000000000} {
		positive = append(positive, a-1, a+1)
	}
	var all []api.Num
	for _, a := range positive {
		all = append(all, a, a|sign)
	}
	return append(all, someNaNs()...)
}

// someNaNs are of either sign, quiet and signalling ones.
func someNaNs() []api.Num {
	return []api.Num{
		theNaN, 0x7ff0000000000001, 0x7ff0000000000002, 0x7ff7ffffffffffff, 0x7ff8000000000000, 0x7ff8000000000002, 0x7fffffffffffffff,
		0xfff0000000000001, 0xfff7ffffffffffff, 0xfff8000000000000, 0xfff8000000000001, 0xfffc0000deadbeef, 0xffffffffffffffff,
	}
}

// power is 2^n.
func power(n int) *big.Rat {
	x := new(big.Rat).SetInt(new(big.Int).Lsh(big.NewInt(1), uint(max(n, -n))))
	if n < 0 {
		x.Inv(x)
	}
	return x
}

// value is what the bits of a finite number tell.
func value(a api.Num) *big.Rat {
	e, f := int(a>>52&0x7ff), int64(a&(1<<52-1))
	x := new(big.Rat)
	if e == 0 {
		x.Mul(new(big.Rat).SetInt64(f), power(-1074))
	} else {
		x.Mul(new(big.Rat).SetInt64(1<<52+f), power(e-1075))
	}
	if signOf(a) != 0 {
		x.Neg(x)
	}
	return x
}

// isRounding tells whether got is the exact value x, which is not 0, rounded.
func isRounding(x *big.Rat, got api.Num) bool {
	if isNaN(got) || (x.Sign() < 0) != (signOf(got) != 0) {
		return false
	}
	size, n := new(big.Rat).Abs(x), got&^sign
	if size.Cmp(new(big.Rat).Sub(power(1024), power(970))) >= 0 {
		return n == inf
	}
	if n == inf {
		return false
	}
	gap := distance(size, n)
	for _, neighbour := range []api.Num{n - 1, n + 1} {
		if !isFinite(neighbour) || signOf(neighbour) != 0 {
			continue
		}
		other := distance(size, neighbour).Cmp(gap)
		if other < 0 || other == 0 && n&1 == 1 {
			return false
		}
	}
	return true
}

func distance(x *big.Rat, a api.Num) *big.Rat {
	gap := new(big.Rat).Sub(x, value(a))
	return gap.Abs(gap)
}

// rounded is the number that isRounding asks for; what the library answers is not believed without that.
func rounded(x *big.Rat) api.Num {
	f, _ := x.Float64()
	a := api.Num(math.Float64bits(f))
	if !isRounding(x, a) {
		panic("the reference does not round as the chapter says")
	}
	return a
}

func exactAdd(a, b api.Num) api.Num {
	switch {
	case isNaN(a) || isNaN(b):
		return theNaN
	case isInf(a) && isInf(b) && a != b:
		return theNaN
	case isInf(a):
		return a
	case isInf(b):
		return b
	}
	x := new(big.Rat).Add(value(a), value(b))
	switch {
	case a == sign && b == sign:
		return sign
	case x.Sign() == 0:
		return 0
	}
	return rounded(x)
}

func exactSub(a, b api.Num) api.Num {
	if isNaN(b) {
		return theNaN
	}
	return exactAdd(a, b^sign)
}

func exactMul(a, b api.Num) api.Num {
	s := signOf(a ^ b)
	switch {
	case isNaN(a) || isNaN(b):
		return theNaN
	case isInf(a) && isZero(b) || isZero(a) && isInf(b):
		return theNaN
	case isInf(a) || isInf(b):
		return s | inf
	case isZero(a) || isZero(b):
		return s
	}
	return rounded(new(big.Rat).Mul(value(a), value(b)))
}

func exactDiv(a, b api.Num) api.Num {
	s := signOf(a ^ b)
	switch {
	case isNaN(a) || isNaN(b):
		return theNaN
	case isZero(a) && isZero(b) || isInf(a) && isInf(b):
		return theNaN
	case isZero(b) || isInf(a):
		return s | inf
	case isInf(b) || isZero(a):
		return s
	}
	return rounded(new(big.Rat).Quo(value(a), value(b)))
}

// exactMod has the sign of a, and is a number as it stands: nothing is rounded.
func exactMod(a, b api.Num) api.Num {
	switch {
	case isNaN(a) || isNaN(b) || isInf(a) || isZero(b):
		return theNaN
	case isInf(b) || isZero(a):
		return a
	}
	times := truncated(new(big.Rat).Quo(value(a), value(b)))
	rest := new(big.Rat).Sub(value(a), new(big.Rat).Mul(new(big.Rat).SetInt(times), value(b)))
	if rest.Sign() == 0 {
		return signOf(a)
	}
	got := rounded(rest)
	if value(got).Cmp(rest) != 0 || signOf(got) != signOf(a) {
		panic("a remainder is no number, or has another sign")
	}
	return got
}

// truncated is the integer nearest to x between 0 and x.
func truncated(x *big.Rat) *big.Int { return new(big.Int).Quo(x.Num(), x.Denom()) }

// exactWhole is the value of a number that came of an exact integer; a result of 0 has the sign of a.
func exactWhole(a api.Num, by func(x *big.Rat) *big.Int) api.Num {
	switch {
	case isNaN(a):
		return theNaN
	case isInf(a):
		return a
	}
	n := by(value(a))
	if n.Sign() == 0 {
		return signOf(a)
	}
	got := rounded(new(big.Rat).SetInt(n))
	if value(got).Cmp(new(big.Rat).SetInt(n)) != 0 {
		panic("a whole number next to a number is none")
	}
	return got
}

// floored is the greatest integer not greater than x: the denominator is above 0, and Div leaves no negative rest.
func floored(x *big.Rat) *big.Int { return new(big.Int).Div(x.Num(), x.Denom()) }

// ceiled is the smallest integer not less than x.
func ceiled(x *big.Rat) *big.Int {
	n := floored(new(big.Rat).Neg(x))
	return n.Neg(n)
}

// isRoot tells whether got is the exact square root of a number above 0, rounded: the root lies between the middles to both neighbours.
func isRoot(a, got api.Num) bool {
	if !isFinite(got) || isZero(got) || signOf(got) != 0 {
		return false
	}
	low, high := middle(got-1, got), middle(got, got+1)
	below, above := low.Mul(low, low).Cmp(value(a)), high.Mul(high, high).Cmp(value(a))
	if got&1 == 0 {
		return below <= 0 && above >= 0
	}
	return below < 0 && above > 0
}

func middle(a, b api.Num) *big.Rat {
	x := new(big.Rat).Add(value(a), value(b))
	return x.Mul(x, power(-1))
}

// beside are numbers just beside the exact value x, and x itself if it is one.
func beside(x *big.Rat) []api.Num {
	f, _ := x.Float64()
	a := api.Num(math.Float64bits(f))
	if !isFinite(a) || isZero(a) {
		return []api.Num{a}
	}
	return []api.Num{a - 1, a, a + 1}
}

// The rounding that the other tests believe in is the chapter's: the middle between two neighbours, what lies just beside it, and the bound of what has room.
func TestRoundingOfTheReference(t *testing.T) {
	tiny := power(-2000)
	for _, x := range []struct {
		exact *big.Rat
		want  api.Num
	}{
		{middle(0, 1), 0},
		{new(big.Rat).Add(middle(0, 1), tiny), 1},
		{middle(1, 2), 2},
		{new(big.Rat).Sub(middle(1, 2), tiny), 1},
		{middle(one, one+1), one},
		{middle(one+1, one+2), one + 2},
		{middle(normal-1, normal), normal},
		{new(big.Rat).Sub(middle(normal-1, normal), tiny), normal - 1},
		{new(big.Rat).Sub(power(1024), power(970)), inf},
		{new(big.Rat).Sub(new(big.Rat).Sub(power(1024), power(970)), tiny), greatest},
		{power(1024), inf},
		{power(1023), 0x7fe0000000000000},
		{power(-1074), 1},
		{power(-1075), 0},
		{power(-1076), 0},
	} {
		if got := rounded(x.exact); got != x.want {
			t.Errorf("%s: %x, want %x", x.exact.FloatString(30), got, x.want)
		}
		if got := rounded(new(big.Rat).Neg(x.exact)); got != x.want|sign {
			t.Errorf("-%s: %x, want %x", x.exact.FloatString(30), got, x.want|sign)
		}
	}
}
