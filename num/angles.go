package num

import "barograph/api"

const (
	pi        api.Num = 0x400921fb54442d18
	halfPi    api.Num = 0x3ff921fb54442d18
	quarterPi api.Num = 0x3fe921fb54442d18
	twoPi     api.Num = 0x401921fb54442d18
	invHalfPi api.Num = 0x3fe45f306dc9c883
	part1     api.Num = 0x3ff921fb54400000 // half of pi in three parts: a small whole number of each is exact
	part2     api.Num = 0x3dd0b4611a600000
	part3     api.Num = 0x3ba3198a2e000000
	eighth    api.Num = 0x3fda827999fcef32
)

// Sin is the sine of an angle.
func Sin(a api.Num) api.Num { return sineAhead(a, 0) }

// Cos is the cosine of an angle.
func Cos(a api.Num) api.Num { return sineAhead(a, 1) }

// sineAhead is the sine of a and so many right angles more; with one more it is the cosine of a.
func sineAhead(a api.Num, right int64) api.Num {
	if IsNaN(a) || IsInf(a) {
		return nan
	}
	if isLess(Int(1000), Abs(a)) {
		a = Mod(a, twoPi)
	}
	k := Floor(Add(Mul(a, invHalfPi), half))
	r := Sub(Sub(Sub(a, Mul(k, part1)), Mul(k, part2)), Mul(k, part3))
	n, _ := Whole(k)
	switch (n + right) & 3 {
	case 0:
		return sineOf(r)
	case 1:
		return cosineOf(r)
	case 2:
		return Neg(sineOf(r))
	}
	return Neg(cosineOf(r))
}

// sineOf is for an angle of half a right one at most.
func sineOf(r api.Num) api.Num { return Mul(r, alternating(r, 16)) }

// cosineOf is for an angle of half a right one at most.
func cosineOf(r api.Num) api.Num { return alternating(r, 17) }

// alternating is the series of the sine, without its factor r, if last is even, and that of the cosine if it is odd.
func alternating(r api.Num, last int64) api.Num {
	s := Mul(r, r)
	return series(one, last, 2, 1, func(p api.Num, i int64) api.Num {
		return Sub(one, Div(Mul(s, p), Int(i*(i+1))))
	})
}

// Tan is the tangent of an angle.
func Tan(a api.Num) api.Num { return Div(Sin(a), Cos(a)) }

// Asin is the angle whose sine is a.
func Asin(a api.Num) api.Num {
	if isLess(one, Abs(a)) {
		return nan
	}
	return Atan(Div(a, Sqrt(Sub(one, Mul(a, a)))))
}

// Acos is the angle whose cosine is a.
func Acos(a api.Num) api.Num { return Sub(halfPi, Asin(a)) }

// Atan is the angle whose tangent is a.
func Atan(a api.Num) api.Num {
	x := Abs(a)
	var angle api.Num
	if isLess(one, x) {
		angle = Sub(halfPi, atanToOne(Div(one, x)))
	} else {
		angle = atanToOne(x)
	}
	if isNegative(a) {
		return Neg(angle)
	}
	return angle
}

// atanToOne is for a y from 0 to 1.
func atanToOne(y api.Num) api.Num {
	if isLess(eighth, y) {
		return Add(quarterPi, atanSeries(Div(Sub(y, one), Add(y, one))))
	}
	return atanSeries(y)
}

// atanSeries is for a z near 0.
func atanSeries(z api.Num) api.Num {
	s := Mul(z, z)
	p := series(Div(one, Int(47)), 45, 2, 1, func(p api.Num, i int64) api.Num {
		return Sub(Div(one, Int(i)), Mul(s, p))
	})
	return Mul(z, p)
}

// Atan2 is the angle of the point that lies a up and b to the right.
func Atan2(a, b api.Num) api.Num {
	switch {
	case IsNaN(a) || IsNaN(b):
		return nan
	case isLess(0, b):
		return Atan(Div(a, b))
	case isLess(b, 0) && isNegative(a):
		return Sub(Atan(Div(a, b)), pi)
	case isLess(b, 0):
		return Add(Atan(Div(a, b)), pi)
	case isLess(0, a):
		return halfPi
	case isLess(a, 0):
		return Neg(halfPi)
	}
	return angleOfZero(a, b)
}

// angleOfZero is for two zeros: their signs alone tell the angle.
func angleOfZero(a, b api.Num) api.Num {
	switch {
	case !isNegative(b):
		return a
	case isNegative(a):
		return Neg(pi)
	}
	return pi
}
