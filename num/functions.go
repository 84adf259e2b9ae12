package num

import (
	"math"

	"barograph/api"
)

const (
	invLn2   api.Num = 0x3ff71547652b82fe
	ln2      api.Num = 0x3fe62e42fefa39ef
	ln2Hi    api.Num = 0x3fe62e42fee00000 // ln2 in two parts: a whole number of this one is exact
	ln2Lo    api.Num = 0x3dea39ef35793c76
	ln10     api.Num = 0x40026bb1bbb55516
	expMost  api.Num = 0x40862e42fefa39ef
	expLeast api.Num = 0xc0874910d52d3052
	rootHalf api.Num = 0x3fe6a09e667f3bcd
)

// series starts with p and puts the terms of from, from - step, .. to around it, one by one: combine is how one is put there.
func series(p api.Num, from, step, to int64, combine func(p api.Num, i int64) api.Num) api.Num {
	for i := from; i >= to; i -= step {
		p = combine(p, i)
	}
	return p
}

// Exp is e to the power of a.
func Exp(a api.Num) api.Num {
	switch {
	case IsNaN(a):
		return nan
	case isLess(expMost, a):
		return infinity
	case isLess(a, expLeast):
		return 0
	}
	k := Floor(Add(Mul(a, invLn2), half))
	r := Sub(Sub(a, Mul(k, ln2Hi)), Mul(k, ln2Lo))
	p := series(one, 13, 1, 1, func(p api.Num, i int64) api.Num {
		return Add(one, Div(Mul(r, p), Int(i)))
	})
	n, _ := Whole(k)
	h := n / 2
	return Mul(Mul(p, powerOfTwo(h)), powerOfTwo(n-h))
}

// powerOfTwo is for an n from -1022 to 1023.
func powerOfTwo(n int64) api.Num { return api.Num(n+exponentBias) << fractionBits }

// Ln is the natural logarithm.
func Ln(a api.Num) api.Num {
	switch {
	case isZero(a):
		return Inf(true)
	case IsNaN(a) || isNegative(a):
		return nan
	case IsInf(a):
		return a
	}
	x, exponent := math.Frexp(float(a))
	m := number(x)
	if isLess(m, rootHalf) {
		m = Mul(m, two)
		exponent--
	}
	f := Div(Sub(m, one), Add(m, one))
	s := Mul(f, f)
	p := series(Div(one, Int(23)), 21, 2, 1, func(p api.Num, i int64) api.Num {
		return Add(Div(one, Int(i)), Mul(s, p))
	})
	e := Int(int64(exponent))
	return Add(Mul(e, ln2Hi), Add(Mul(Mul(two, f), p), Mul(e, ln2Lo)))
}

// Log2 is the logarithm to the base 2.
func Log2(a api.Num) api.Num {
	if m, exponent := math.Frexp(float(a)); m == 0.5 {
		return Int(int64(exponent - 1))
	}
	return Div(Ln(a), ln2)
}

// Log10 is the logarithm to the base 10.
func Log10(a api.Num) api.Num { return Div(Ln(a), ln10) }

// Pow is a to the power of b.
func Pow(a, b api.Num) api.Num {
	switch {
	case isZero(b) || a == one:
		return one
	case IsNaN(a) || IsNaN(b):
		return nan
	case isLess(twoTo53, Abs(b)):
		return farPower(a, b)
	}
	if n, ok := Whole(b); ok {
		return wholePower(a, n)
	}
	switch {
	case isZero(a):
		return zeroOrInfinity(isNegative(b))
	case IsInf(a):
		return zeroOrInfinity(!isNegative(b))
	case isNegative(a):
		return nan
	}
	return Exp(Mul(b, Ln(a)))
}

// farPower is for an infinite b, or one beyond 2^53.
func farPower(a, b api.Num) api.Num {
	size := Abs(a)
	if size == one {
		return one
	}
	return zeroOrInfinity(isLess(size, one) == isNegative(b))
}

// wholePower squares its way to the power of n.
func wholePower(a api.Num, n int64) api.Num {
	r, x := one, a
	for left := max(n, -n); left > 0; left /= 2 {
		if left%2 == 1 {
			r = Mul(r, x)
		}
		x = Mul(x, x)
	}
	if n < 0 {
		return Div(one, r)
	}
	return r
}

// zeroOrInfinity is the positive one.
func zeroOrInfinity(infinite bool) api.Num {
	if infinite {
		return infinity
	}
	return 0
}

// Sinh is the hyperbolic sine.
func Sinh(a api.Num) api.Num { return Div(Sub(Exp(a), Exp(Neg(a))), two) }

// Cosh is the hyperbolic cosine.
func Cosh(a api.Num) api.Num { return Div(Add(Exp(a), Exp(Neg(a))), two) }

// Tanh is the hyperbolic tangent.
func Tanh(a api.Num) api.Num {
	switch {
	case isLess(Int(22), a):
		return one
	case isLess(a, Int(-22)):
		return Int(-1)
	}
	e := Exp(Mul(two, a))
	return Div(Sub(e, one), Add(e, one))
}

// Asinh is the number whose hyperbolic sine is a.
func Asinh(a api.Num) api.Num {
	if IsInf(a) {
		return a
	}
	x := Abs(a)
	y := Ln(Add(x, Sqrt(Add(Mul(x, x), one))))
	if isNegative(a) {
		return Neg(y)
	}
	return y
}

// Acosh is the number whose hyperbolic cosine is a.
func Acosh(a api.Num) api.Num {
	if isLess(a, one) {
		return nan
	}
	return Ln(Add(a, Sqrt(Sub(Mul(a, a), one))))
}

// Atanh is the number whose hyperbolic tangent is a.
func Atanh(a api.Num) api.Num {
	if isLess(one, Abs(a)) {
		return nan
	}
	return Mul(half, Ln(Div(Add(one, a), Sub(one, a))))
}
