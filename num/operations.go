package num

import (
	"math"

	"barograph/api"
)

// Add is the sum, rounded.
func Add(a, b api.Num) api.Num { return number(float(a) + float(b)) }

// Sub is the difference, rounded.
func Sub(a, b api.Num) api.Num { return Add(a, Neg(b)) }

// Mul is the product, rounded.
func Mul(a, b api.Num) api.Num {
	// Without the conversion, a machine with a step for x * y + z could take it where this call stands beside an addition, and leave the product unrounded.
	product := float64(float(a) * float(b))
	return number(product)
}

// Div is the quotient, rounded.
func Div(a, b api.Num) api.Num { return number(float(a) / float(b)) }

// Mod is what a division whose quotient is cut off leaves, exactly.
func Mod(a, b api.Num) api.Num {
	switch {
	case IsNaN(a) || IsNaN(b) || IsInf(a) || isZero(b):
		return nan
	case IsInf(b) || isZero(a):
		return a
	}
	rest := remainder(Abs(a), Abs(b))
	if isNegative(a) {
		return Neg(rest)
	}
	return rest
}

// remainder is for finite numbers above 0.
func remainder(a, b api.Num) api.Num {
	m, e := parts(a)
	n, f := parts(b)
	if e < f {
		// b is not subnormal then, so that it has all its bits and is more than a.
		return a
	}
	m %= n
	for e > f {
		// A remainder has 53 bits at most, and 64 have room for 11 more.
		step := min(e-f, 11)
		m = m << step % n
		e -= step
	}
	// No bit is lost: the remainder has no more of them than b.
	return number(math.Ldexp(float64(m), f))
}

// parts are m and e of a finite number above 0 that is m times 2^e, as its bits tell it.
func parts(a api.Num) (m uint64, e int) {
	m = uint64(a) & (1<<fractionBits - 1)
	e = int(a >> fractionBits)
	if e == 0 {
		e = 1
	} else {
		m |= 1 << fractionBits
	}
	return m, e - exponentBias - fractionBits
}

// Sqrt is the square root, rounded.
func Sqrt(a api.Num) api.Num { return number(math.Sqrt(float(a))) }

// Neg is a with the other sign.
func Neg(a api.Num) api.Num {
	if IsNaN(a) {
		return nan
	}
	return a ^ signBit
}

// Abs is a without its sign.
func Abs(a api.Num) api.Num {
	if IsNaN(a) {
		return nan
	}
	return a &^ signBit
}

// Sgn is 1 or -1 by the sign, or the zero that a is.
func Sgn(a api.Num) api.Num {
	switch {
	case IsNaN(a):
		return nan
	case isZero(a):
		return a
	case isNegative(a):
		return Int(-1)
	}
	return one
}

// Floor is the greatest whole number up to a.
func Floor(a api.Num) api.Num { return number(math.Floor(float(a))) }

// Ceil is the smallest whole number from a on.
func Ceil(a api.Num) api.Num { return number(math.Ceil(float(a))) }

// Trunc is the whole number next to a on its way to 0.
func Trunc(a api.Num) api.Num { return number(math.Trunc(float(a))) }

// Min is the smaller one; a number comes before a NaN.
func Min(a, b api.Num) api.Num { return pick(a, b, -1) }

// Max is the greater one; a number comes before a NaN.
func Max(a, b api.Num) api.Num { return pick(a, b, 1) }

// pick is b if it compares with a as wanted.
func pick(a, b api.Num, wanted int) api.Num {
	switch {
	case IsNaN(a) && IsNaN(b):
		return nan
	case IsNaN(a):
		return b
	}
	if order, _ := Cmp(b, a); order == wanted {
		return b
	}
	return a
}

// Nearest is the multiple of b that is nearest to a.
func Nearest(a, b api.Num) api.Num {
	i := Div(one, b)
	return Div(Floor(Add(Mul(a, i), half)), i)
}

// Deg is an angle in degrees.
func Deg(a api.Num) api.Num { return Div(Mul(a, Int(180)), pi) }

// Rad is an angle that is told in degrees.
func Rad(a api.Num) api.Num { return Div(Mul(a, pi), Int(180)) }

// Sum adds up, from the first to the last.
func Sum(l ...api.Num) api.Num {
	var sum api.Num
	for _, a := range l {
		sum = Add(sum, a)
	}
	return sum
}

// Mean is the sum by how many there are.
func Mean(l ...api.Num) api.Num {
	if len(l) == 0 {
		return nan
	}
	return Div(Sum(l...), Int(int64(len(l))))
}
