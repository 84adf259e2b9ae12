package num_test

import (
	"math"

	"barograph/api"
)

// This file has the chapter's functions, word for word, in the machine's floats: each product is converted, so that it is rounded by itself. A NaN has any bits here.

func named(bits uint64) float64 { return math.Float64frombits(bits) }

var (
	invLn2    = named(0x3ff71547652b82fe)
	ln2       = named(0x3fe62e42fefa39ef)
	ln2Hi     = named(0x3fe62e42fee00000)
	ln2Lo     = named(0x3dea39ef35793c76)
	ln10      = named(0x40026bb1bbb55516)
	expMost   = named(0x40862e42fefa39ef)
	expLeast  = named(0xc0874910d52d3052)
	pi        = named(0x400921fb54442d18)
	halfPi    = named(0x3ff921fb54442d18)
	quarterPi = named(0x3fe921fb54442d18)
	twoPi     = named(0x401921fb54442d18)
	invHalfPi = named(0x3fe45f306dc9c883)
	part1     = named(0x3ff921fb54400000)
	part2     = named(0x3dd0b4611a600000)
	part3     = named(0x3ba3198a2e000000)
	rootHalf  = named(0x3fe6a09e667f3bcd)
	eighth    = named(0x3fda827999fcef32)
)

func formulaExp(a float64) float64 {
	if a > expMost {
		return math.Inf(1)
	}
	if a < expLeast {
		return 0
	}
	if a != a {
		return a
	}
	k := math.Floor(float64(a*invLn2) + 0.5)
	r := a - float64(k*ln2Hi) - float64(k*ln2Lo)
	p := 1.0
	for i := 13; i >= 1; i-- {
		p = 1 + float64(r*p)/float64(i)
	}
	h := int(k) / 2
	return float64(p*math.Ldexp(1, h)) * math.Ldexp(1, int(k)-h)
}

func formulaLn(a float64) float64 {
	switch {
	case a == 0:
		return math.Inf(-1)
	case a < 0 || a != a:
		return math.NaN()
	case a == math.Inf(1):
		return a
	}
	m, e := math.Frexp(a)
	if m < rootHalf {
		m *= 2
		e--
	}
	f := (m - 1) / (m + 1)
	s := float64(f * f)
	p := 1.0 / 23
	for i := 21; i >= 1; i -= 2 {
		p = 1/float64(i) + float64(s*p)
	}
	n := float64(e)
	return float64(n*ln2Hi) + (float64(float64(2*f)*p) + float64(n*ln2Lo))
}

func formulaLog2(a float64) float64 {
	for n := -1074; n <= 1023; n++ {
		if a == math.Ldexp(1, n) {
			return float64(n)
		}
	}
	return formulaLn(a) / ln2
}

func formulaLog10(a float64) float64 { return formulaLn(a) / ln10 }

// isWholeFloat does not ask how great it is.
func isWholeFloat(a float64) bool { return !math.IsInf(a, 0) && a == math.Trunc(a) }

func formulaPow(a, b float64) float64 {
	size := math.Abs(a)
	switch {
	case b == 0 || a == 1:
		return 1
	case a != a || b != b:
		return math.NaN()
	case math.IsInf(b, 0) || isWholeFloat(b) && math.Abs(b) > 1<<53:
		switch {
		case size == 1:
			return 1
		case size > 1 && b > 0 || size < 1 && b < 0:
			return math.Inf(1)
		}
		return 0
	case isWholeFloat(b):
		return formulaPower(a, b)
	case a == 0 && b > 0, math.IsInf(a, 0) && b < 0:
		return 0
	case a == 0, math.IsInf(a, 0):
		return math.Inf(1)
	case a < 0:
		return math.NaN()
	}
	return formulaExp(float64(b * formulaLn(a)))
}

func formulaPower(a, b float64) float64 {
	r, x := 1.0, a
	for n := uint64(math.Abs(b)); n > 0; n >>= 1 {
		if n&1 == 1 {
			r = float64(r * x)
		}
		x = float64(x * x)
	}
	if b > 0 {
		return r
	}
	return 1 / r
}

// turn is k modulo 4, and the sine and the cosine of r.
func turn(a float64) (int, float64, float64) {
	if math.Abs(a) > 1000 {
		a = math.Mod(a, twoPi)
	}
	k := math.Floor(float64(a*invHalfPi) + 0.5)
	r := a - float64(k*part1) - float64(k*part2) - float64(k*part3)
	s := float64(r * r)
	p, q := 1.0, 1.0
	for i := 16; i >= 2; i -= 2 {
		p = 1 - float64(s*p)/float64(i*(i+1))
	}
	for i := 17; i >= 1; i -= 2 {
		q = 1 - float64(s*q)/float64(i*(i+1))
	}
	return (int(k)%4 + 4) % 4, float64(r * p), q
}

func formulaSin(a float64) float64 {
	if a != a || math.IsInf(a, 0) {
		return math.NaN()
	}
	k, sine, cosine := turn(a)
	return [4]float64{sine, cosine, -sine, -cosine}[k]
}

func formulaCos(a float64) float64 {
	if a != a || math.IsInf(a, 0) {
		return math.NaN()
	}
	k, sine, cosine := turn(a)
	return [4]float64{cosine, -sine, -cosine, sine}[k]
}

func formulaTan(a float64) float64 { return formulaSin(a) / formulaCos(a) }

func formulaAtan(a float64) float64 {
	h := func(z float64) float64 {
		s := float64(z * z)
		p := 1.0 / 47
		for i := 45; i >= 1; i -= 2 {
			p = 1/float64(i) - float64(s*p)
		}
		return float64(z * p)
	}
	g := func(y float64) float64 {
		if y > eighth {
			return quarterPi + h((y-1)/(y+1))
		}
		return h(y)
	}
	x := math.Abs(a)
	result := g(x)
	if x > 1 {
		result = halfPi - g(1/x)
	}
	if math.Signbit(a) {
		return -result
	}
	return result
}

func formulaAsin(a float64) float64 {
	if math.Abs(a) > 1 {
		return math.NaN()
	}
	return formulaAtan(a / math.Sqrt(1-float64(a*a)))
}

func formulaAcos(a float64) float64 { return halfPi - formulaAsin(a) }

func formulaAtan2(a, b float64) float64 {
	switch {
	case a != a || b != b:
		return math.NaN()
	case b > 0:
		return formulaAtan(a / b)
	case b < 0 && !math.Signbit(a):
		return formulaAtan(a/b) + pi
	case b < 0:
		return formulaAtan(a/b) - pi
	case a > 0:
		return halfPi
	case a < 0:
		return -halfPi
	case !math.Signbit(b):
		return a
	}
	return math.Copysign(pi, a)
}

func formulaSinh(a float64) float64 { return (formulaExp(a) - formulaExp(-a)) / 2 }

func formulaCosh(a float64) float64 { return (formulaExp(a) + formulaExp(-a)) / 2 }

func formulaTanh(a float64) float64 {
	if a > 22 {
		return 1
	}
	if a < -22 {
		return -1
	}
	return (formulaExp(2*a) - 1) / (formulaExp(2*a) + 1)
}

func formulaAsinh(a float64) float64 {
	if math.IsInf(a, 0) {
		return a
	}
	x := math.Abs(a)
	result := formulaLn(x + math.Sqrt(float64(x*x)+1))
	if math.Signbit(a) {
		return -result
	}
	return result
}

func formulaAcosh(a float64) float64 {
	if a < 1 {
		return math.NaN()
	}
	return formulaLn(a + math.Sqrt(float64(a*a)-1))
}

func formulaAtanh(a float64) float64 {
	if math.Abs(a) > 1 {
		return math.NaN()
	}
	return 0.5 * formulaLn((1+a)/(1-a))
}

// inBits is a formula of bits: its NaN is the one.
func inBits(formula func(float64) float64) unary {
	return func(a api.Num) api.Num {
		return theBits(formula(math.Float64frombits(uint64(a))))
	}
}

func inBitsOfTwo(formula func(a, b float64) float64) binary {
	return func(a, b api.Num) api.Num {
		return theBits(formula(math.Float64frombits(uint64(a)), math.Float64frombits(uint64(b))))
	}
}

func theBits(x float64) api.Num {
	if x != x {
		return theNaN
	}
	return bitsOf(x)
}
