package num_test

import (
	"math"
	"testing"

	"barograph/api"
	"barograph/num"
)

// function is one of one number, with the chapter's formula and the library's own function, which is near to it on these bounds.
type function struct {
	name    string
	call    unary
	formula func(float64) float64
	library func(float64) float64
	from    float64
	to      float64
	near    float64
}

func functions() []function {
	return []function{
		{"Exp", num.Exp, formulaExp, math.Exp, -700, 700, 1e-13},
		{"Ln", num.Ln, formulaLn, math.Log, 1e-9, 1e9, 1e-15},
		{"Log2", num.Log2, formulaLog2, math.Log2, 1e-9, 1e9, 1e-15},
		{"Log10", num.Log10, formulaLog10, math.Log10, 1e-9, 1e9, 1e-15},
		{"Sin", num.Sin, formulaSin, math.Sin, -2000, 2000, 1e-12},
		{"Cos", num.Cos, formulaCos, math.Cos, -2000, 2000, 1e-12},
		{"Tan", num.Tan, formulaTan, math.Tan, -1.5, 1.5, 1e-14},
		{"Asin", num.Asin, formulaAsin, math.Asin, -1, 1, 1e-14},
		{"Acos", num.Acos, formulaAcos, math.Acos, -1, 1, 1e-14},
		{"Atan", num.Atan, formulaAtan, math.Atan, -100, 100, 1e-15},
		{"Sinh", num.Sinh, formulaSinh, math.Sinh, -30, 30, 1e-13},
		{"Cosh", num.Cosh, formulaCosh, math.Cosh, -30, 30, 1e-13},
		{"Tanh", num.Tanh, formulaTanh, math.Tanh, -30, 30, 1e-14},
		{"Asinh", num.Asinh, formulaAsinh, math.Asinh, -50, 50, 1e-13},
		{"Acosh", num.Acosh, formulaAcosh, math.Acosh, 1.01, 50, 1e-13},
		{"Atanh", num.Atanh, formulaAtanh, math.Atanh, -0.99, 0.99, 1e-14},
	}
}

// bounds are the numbers at which a function's description changes, with their neighbours, of both signs.
func bounds() []api.Num {
	at := []uint64{
		0x40862e42fefa39ef, 0x40874910d52d3052, // ExpMost, ExpLeast
		0x3fe6a09e667f3bcd, 0x3fda827999fcef32, 0x3fe0000000000000, // RootHalf, Eighth, a half
		0x3ff0000000000000, 0x4036000000000000, 0x408f400000000000, // 1, 22, 1000
		0x400921fb54442d18, 0x3ff921fb54442d18, 0x3fe921fb54442d18, 0x401921fb54442d18, 0x4012d97c7f3321d2, // Pi and some of its parts and multiples
		0x40862e42fefa39ef - 1<<52, 0x40874910d52d3052 - 1<<52,
		0x4030000000000000, 0x4332000000000000, 0x4082000000000000,
	}
	for n := -1074; n < 1024; n += 7 {
		at = append(at, uint64(bitsOf(math.Ldexp(1, n))), uint64(bitsOf(math.Ldexp(math.Sqrt2, n))))
	}
	for i := range 40 {
		// Where k rises: half way between two multiples of Ln2, and of HalfPi.
		at = append(at, uint64(bitsOf((float64(i)+0.5)*math.Ln2)), uint64(bitsOf((float64(i)+0.5)*math.Pi/2)))
		at = append(at, uint64(bitsOf(float64(i)*math.Pi/2)), uint64(bitsOf(float64(i))), uint64(bitsOf(math.Tan(float64(i)/26))))
	}
	for k := range 640 {
		// Where r is next to nothing, and what is left of it hangs on all parts of HalfPi.
		at = append(at, uint64(bitsOf(float64(k)*math.Pi/2)))
	}
	var all []api.Num
	for _, a := range at {
		for by := range uint64(7) {
			b := api.Num(a + by - 3)
			all = append(all, b&^sign, b|sign)
		}
	}
	return all
}

func TestFunctionsAreTheirFormulas(t *testing.T) {
	for i, f := range functions() {
		want := inBits(f.formula)
		all := append(edges(), bounds()...)
		d := dice(40 + i)
		for range 4000 {
			x := f.from + (f.to-f.from)*float64(d.number()>>11)/(1<<53)
			all = append(all, d.any(), d.near(3), d.near(12), bitsOf(x))
		}
		for _, a := range all {
			check(t, f.name, a, 0, f.call(a), want(a))
		}
	}
}

// A formula that was read wrong would be far from the function that it is named for.
func TestFunctionsAreNearToTheirNames(t *testing.T) {
	for i, f := range functions() {
		d := dice(60 + i)
		for range 4000 {
			x := f.from + (f.to-f.from)*float64(d.number()>>11)/(1<<53)
			got, want := math.Float64frombits(uint64(f.call(bitsOf(x)))), f.library(x)
			if !(math.Abs(got-want) <= f.near*math.Max(1, math.Abs(want))) {
				t.Errorf("%s(%v) = %v, which is not near %v", f.name, x, got, want)
			}
		}
	}
}

func TestAnglesBeyondAThousand(t *testing.T) {
	for i, f := range functions()[4:7] {
		want := inBits(f.formula)
		d := dice(80 + i)
		for range 3000 {
			a := d.any()
			check(t, f.name, a, 0, f.call(a), want(a))
			a = bitsOf(1000*float64(1+d.below(8))) + api.Num(d.below(9)) - 4
			check(t, f.name, a, 0, f.call(a), want(a))
			check(t, f.name, a|sign, 0, f.call(a|sign), want(a|sign))
		}
	}
}

// ahead is the neighbour so variadic numbers farther from 0.
func ahead(x float64, by int) api.Num { return bitsOf(x) + api.Num(by) }

// row is what a function answers at one number.
type row struct{ a, want api.Num }

func rowsHold(t *testing.T, name string, call unary, rows []row) {
	t.Helper()
	for _, x := range rows {
		check(t, name, x.a, 0, call(x.a), x.want)
	}
}

func TestExpAtItsBounds(t *testing.T) {
	const most, least = 0x40862e42fefa39ef, 0xc0874910d52d3052
	rowsHold(t, "Exp", num.Exp, []row{
		{0, one}, {sign, one}, {inf, inf}, {inf | sign, 0}, {greatest, inf}, {greatest | sign, 0}, {1, one}, {1 | sign, one},
		{most + 1, inf}, {least + 1, 0}, {0x4090000000000000, inf}, {0xc090000000000000, 0},
		{most, inBits(formulaExp)(most)}, {least, inBits(formulaExp)(least)},
	})
	if got := num.Exp(most); !isFinite(got) {
		t.Errorf("Exp(ExpMost) = %x", got)
	}
}

func TestLogarithmsAtTheirBounds(t *testing.T) {
	calls := []function{{name: "Ln", call: num.Ln}, {name: "Log2", call: num.Log2}, {name: "Log10", call: num.Log10}}
	for _, f := range calls {
		rowsHold(t, f.name, f.call, []row{
			{0, inf | sign}, {sign, inf | sign}, {inf, inf}, {inf | sign, theNaN}, {1 | sign, theNaN}, {one | sign, theNaN}, {greatest | sign, theNaN}, {one, 0},
		})
	}
	for n := -1074; n < 1024; n++ {
		a := bitsOf(math.Ldexp(1, n))
		check(t, "Log2", a, 0, num.Log2(a), bitsOf(float64(n)))
		check(t, "Log2", a|sign, 0, num.Log2(a|sign), theNaN)
		if n > -1022 {
			check(t, "Log2", a+1, 0, num.Log2(a+1), exactDiv(num.Ln(a+1), 0x3fe62e42fefa39ef))
			check(t, "Log2", a-1, 0, num.Log2(a-1), exactDiv(num.Ln(a-1), 0x3fe62e42fefa39ef))
		}
	}
	for _, a := range some(300, 90) {
		check(t, "Log10", a, 0, num.Log10(a), exactDiv(num.Ln(a), 0x40026bb1bbb55516))
	}
}

func TestAnglesAtTheirBounds(t *testing.T) {
	const quarter, right, straight = 0x3fe921fb54442d18, 0x3ff921fb54442d18, 0x400921fb54442d18
	rowsHold(t, "Sin", num.Sin, []row{{0, 0}, {sign, sign}, {inf, theNaN}, {inf | sign, theNaN}, {1, 1}, {1 | sign, 1 | sign}, {right, one}, {right | sign, one | sign}})
	rowsHold(t, "Cos", num.Cos, []row{{0, one}, {sign, one}, {inf, theNaN}, {inf | sign, theNaN}, {1, one}, {straight, one | sign}, {straight | sign, one | sign}})
	rowsHold(t, "Tan", num.Tan, []row{{0, 0}, {sign, sign}, {inf, theNaN}, {inf | sign, theNaN}, {1, 1}})
	rowsHold(t, "Atan", num.Atan, []row{{0, 0}, {sign, sign}, {inf, right}, {inf | sign, right | sign}, {one, quarter}, {one | sign, quarter | sign}, {1, 1}, {greatest, right}})
	rowsHold(t, "Asin", num.Asin, []row{
		{0, 0}, {sign, sign}, {one, right}, {one | sign, right | sign}, {one + 1, theNaN}, {(one + 1) | sign, theNaN}, {inf, theNaN}, {inf | sign, theNaN}, {greatest, theNaN},
	})
	rowsHold(t, "Acos", num.Acos, []row{
		{0, right}, {sign, right}, {one, 0}, {one | sign, straight}, {one + 1, theNaN}, {(one + 1) | sign, theNaN}, {inf, theNaN}, {inf | sign, theNaN},
	})
	for _, a := range some(500, 91) {
		check(t, "Tan", a, 0, num.Tan(a), exactDiv(num.Sin(a), num.Cos(a)))
		check(t, "Acos", a, 0, num.Acos(a), exactSub(right, num.Asin(a)))
	}
}

func TestHyperbolicFunctionsAtTheirBounds(t *testing.T) {
	const bound = 0x4036000000000000 // 22
	rowsHold(t, "Sinh", num.Sinh, []row{{0, 0}, {sign, 0}, {inf, inf}, {inf | sign, inf | sign}, {greatest, inf}, {greatest | sign, inf | sign}})
	rowsHold(t, "Cosh", num.Cosh, []row{{0, one}, {sign, one}, {inf, inf}, {inf | sign, inf}, {greatest | sign, inf}})
	rowsHold(t, "Tanh", num.Tanh, []row{
		{0, 0}, {sign, 0}, {inf, one}, {inf | sign, one | sign}, {greatest, one}, {greatest | sign, one | sign},
		{bound, one}, {bound + 1, one}, {bound | sign, one | sign}, {(bound + 1) | sign, one | sign}, {0x4076800000000000, one}, {0xc076800000000000, one | sign},
	})
	rowsHold(t, "Asinh", num.Asinh, []row{{0, 0}, {sign, sign}, {inf, inf}, {inf | sign, inf | sign}, {greatest, inf}, {greatest | sign, inf | sign}, {1, 0}, {1 | sign, sign}})
	rowsHold(t, "Acosh", num.Acosh, []row{{one, 0}, {one - 1, theNaN}, {0, theNaN}, {sign, theNaN}, {one | sign, theNaN}, {inf, inf}, {inf | sign, theNaN}, {greatest, inf}})
	rowsHold(t, "Atanh", num.Atanh, []row{
		{0, 0}, {sign, 0}, {one, inf}, {one | sign, inf | sign}, {one + 1, theNaN}, {(one + 1) | sign, theNaN}, {inf, theNaN}, {inf | sign, theNaN},
	})
}

// powers are pairs at which one case of Pow ends and another one begins.
func powers() [][2]api.Num {
	var whole []api.Num
	for _, x := range []float64{0.5, 1, 1.5, 2, 2.5, 3, 5, 7, 10, 100, 101, 308, 309, 310, 1023, 1024, 1074, 1075, 1e6 + 1, 1<<53 - 1, 1 << 53, 1<<53 + 2, 1 << 54, 1 << 62, 1 << 63, 1 << 64, 1e300} {
		whole = append(whole, bitsOf(x), bitsOf(-x))
	}
	exponents := append(whole, edges()...)
	var all [][2]api.Num
	for _, b := range exponents {
		for _, a := range edges() {
			all = append(all, [2]api.Num{a, b})
		}
		for _, x := range []float64{2, 3, 10, 0.1, 0.9, 1.0000001, 0.9999999, 1e10, 1e-10} {
			for _, a := range []api.Num{bitsOf(x), bitsOf(-x), ahead(x, 1), ahead(-x, -1)} {
				all = append(all, [2]api.Num{a, b})
			}
		}
	}
	return all
}

func TestPow(t *testing.T) {
	all := powers()
	d := dice(92)
	for range 6000 {
		all = append(all, [2]api.Num{d.any(), d.any()}, [2]api.Num{d.near(4), d.near(8)}, [2]api.Num{d.near(4), bitsOf(float64(d.below(400) - 200))}, [2]api.Num{d.near(1), bitsOf(float64(int64(d.number() >> 11)))})
	}
	want := inBitsOfTwo(formulaPow)
	for _, p := range all {
		check(t, "Pow", p[0], p[1], num.Pow(p[0], p[1]), want(p[0], p[1]))
	}
}

func TestCasesOfPow(t *testing.T) {
	const two, eight, great, third = 0x4000000000000000, 0x4020000000000000, 0x4340000000000000, 0x4008000000000000
	otherNaN := api.Num(0xfff0000000000001)
	for _, x := range []struct{ a, b, want api.Num }{
		// 1: even if the other one is a NaN, or infinite.
		{theNaN, 0, one}, {otherNaN, sign, one}, {one, theNaN, one}, {one, otherNaN, one}, {one, inf, one}, {one, inf | sign, one}, {inf, 0, one}, {0, 0, one}, {sign, sign, one}, {one, half, one},
		// 2
		{theNaN, one, theNaN}, {otherNaN, two, theNaN}, {two, theNaN, theNaN}, {0, otherNaN, theNaN}, {one | sign, theNaN, theNaN}, {theNaN, inf, theNaN}, {inf, theNaN, theNaN},
		// 3
		{one | sign, inf, one}, {one | sign, inf | sign, one}, {one | sign, great + 1, one}, {one | sign, (great + 1) | sign, one},
		{two, inf, inf}, {two | sign, inf, inf}, {two, inf | sign, 0}, {two | sign, inf | sign, 0}, {half, inf, 0}, {half | sign, inf, 0}, {half, inf | sign, inf}, {half | sign, inf | sign, inf},
		{one + 1, great + 1, inf}, {one + 1, (great + 1) | sign, 0}, {one - 1, great + 1, 0}, {one - 1, (great + 1) | sign, inf}, {(one + 1) | sign, greatest, inf},
		{0, inf, 0}, {sign, inf, 0}, {0, inf | sign, inf}, {sign, inf | sign, inf}, {inf, inf, inf}, {inf | sign, inf, inf}, {inf | sign, inf | sign, 0}, {sign, great + 1, 0}, {inf | sign, (great + 1) | sign, 0},
		// 4, at its bound too
		{two, 0x4024000000000000, 0x4090000000000000}, {two, one | sign, half}, {two | sign, third, eight | sign}, {two | sign, two, 0x4010000000000000}, {0, third, 0}, {sign, third, sign}, {sign, two, 0},
		{0, one | sign, inf}, {sign, one | sign, inf | sign}, {sign, two | sign, inf}, {inf, third, inf}, {inf | sign, third, inf | sign}, {inf | sign, third | sign, sign}, {inf, one | sign, 0},
		{one | sign, great, one}, {one | sign, great - 1, one | sign}, {one | sign, (great - 1) | sign, one | sign}, {one - 1, great, powInBits(one-1, great)}, {one + 1, great, powInBits(one+1, great)},
		{0x4024000000000000, 0xc073600000000000, 0}, // 10 to the power of -310: r is an infinity, and 1 by it is 0
		{sign, great, 0}, {sign, great - 1, sign},
		// 5
		{0, half, 0}, {sign, half, 0}, {0, half | sign, inf}, {sign, half | sign, inf},
		// 6, ahead of 7
		{inf, half, inf}, {inf | sign, half, inf}, {inf, half | sign, 0}, {inf | sign, half | sign, 0},
		// 7
		{0xc020000000000000, half, theNaN}, {one | sign, half, theNaN}, {1 | sign, half | sign, theNaN}, {greatest | sign, 1, theNaN},
		// 8
		{two, half, num.Exp(exactMul(half, num.Ln(two)))}, {0x4024000000000000, 0xbfd3333333333333, num.Exp(exactMul(0xbfd3333333333333, num.Ln(0x4024000000000000)))},
		{greatest, 1, one}, {two, 0x409ff80000000001, inf}, {two, 0xc09ff80000000001, 0},
	} {
		check(t, "Pow", x.a, x.b, num.Pow(x.a, x.b), x.want)
	}
}

func powInBits(a, b api.Num) api.Num { return inBitsOfTwo(formulaPow)(a, b) }

func TestAtan2(t *testing.T) {
	want := inBitsOfTwo(formulaAtan2)
	d := dice(93)
	all := some(10, 94)
	for _, a := range all {
		for _, b := range all {
			check(t, "Atan2", a, b, num.Atan2(a, b), want(a, b))
		}
	}
	for range 4000 {
		a, b := d.near(3), d.near(3)
		check(t, "Atan2", a, b, num.Atan2(a, b), want(a, b))
		angle := math.Atan2(math.Float64frombits(uint64(a)), math.Float64frombits(uint64(b)))
		if got := math.Float64frombits(uint64(num.Atan2(a, b))); math.Abs(got-angle) > 1e-15*4 {
			t.Errorf("Atan2(%x, %x) = %v, which is not near %v", a, b, got, angle)
		}
	}
}

func TestCasesOfAtan2(t *testing.T) {
	const quarter, right, straight, most = 0x3fe921fb54442d18, 0x3ff921fb54442d18, 0x400921fb54442d18, 0x4002d97c7f3321d2
	for _, x := range []struct{ a, b, want api.Num }{
		{theNaN, one, theNaN}, {one, 0xfff0000000000001, theNaN}, {theNaN, 0, theNaN}, {0, theNaN, theNaN}, {theNaN, theNaN, theNaN},
		{one, one, quarter}, {one | sign, one, quarter | sign}, {0, one, 0}, {sign, one, sign}, {inf, one, right}, {inf | sign, one, right | sign}, {one, inf, 0}, {one | sign, inf, sign},
		{one, one | sign, most}, {one | sign, one | sign, most | sign}, {0, one | sign, straight}, {sign, one | sign, straight | sign}, {one, inf | sign, straight}, {one | sign, inf | sign, straight | sign},
		{inf, one | sign, right}, {inf | sign, one | sign, right | sign},
		{one, 0, right}, {one, sign, right}, {one | sign, 0, right | sign}, {one | sign, sign, right | sign}, {inf, sign, right}, {inf | sign, 0, right | sign}, {1, sign, right}, {1 | sign, 0, right | sign},
		{0, 0, 0}, {sign, 0, sign}, {0, sign, straight}, {sign, sign, straight | sign},
		{inf, inf, theNaN}, {inf | sign, inf, theNaN}, {inf, inf | sign, theNaN}, {inf | sign, inf | sign, theNaN},
	} {
		check(t, "Atan2", x.a, x.b, num.Atan2(x.a, x.b), x.want)
	}
}

func TestExamplesOfFunctions(t *testing.T) {
	for _, x := range []struct {
		name      string
		got, want api.Num
	}{
		{"exp of 0", num.Exp(0), num.Int(1)},
		{"ln of 1", num.Ln(num.Int(1)), 0},
		{"log2 of 8", num.Log2(num.Int(8)), num.Int(3)},
		{"2 to the power of 10", num.Pow(num.Int(2), num.Int(10)), num.Int(1024)},
		{"2 to the power of -1", num.Pow(num.Int(2), num.Int(-1)), half},
		{"a NaN to the power of 0", num.Pow(0x7ff0000000000002, 0), num.Int(1)},
		{"-8 to the power of 0.5", num.Pow(num.Int(-8), half), theNaN},
		{"sin of 0", num.Sin(0), 0},
		{"atan of the infinity", num.Atan(num.Inf(false)), 0x3ff921fb54442d18},
	} {
		check(t, x.name, 0, 0, x.got, x.want)
	}
}
