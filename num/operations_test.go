package num_test

import (
	"math/big"
	"slices"
	"testing"

	"barograph/api"
	"barograph/num"
)

// operation is one of two numbers, with what exact arithmetic says of it.
type operation struct {
	name  string
	call  binary
	exact binary
}

func operations() []operation {
	return []operation{
		{"Add", num.Add, exactAdd},
		{"Sub", num.Sub, exactSub},
		{"Mul", num.Mul, exactMul},
		{"Div", num.Div, exactDiv},
		{"Mod", num.Mod, exactMod},
	}
}

func TestOperationsAtEdges(t *testing.T) {
	for _, op := range operations() {
		for _, a := range edges() {
			for _, b := range edges() {
				check(t, op.name, a, b, op.call(a, b), op.exact(a, b))
			}
		}
	}
}

func TestOperationsOnNumbersWithoutAPattern(t *testing.T) {
	for _, op := range operations() {
		d := dice(10)
		for i := range 6000 {
			a, b := d.any(), d.any()
			switch i % 3 {
			case 0:
				a, b = d.near(3), d.near(3)
			case 1:
				a, b = d.near(60), d.near(60)
			}
			check(t, op.name, a, b, op.call(a, b), op.exact(a, b))
		}
	}
}

// With a half of a's last bit, and what lies just beside it, a sum falls half way between two numbers, or nearly.
func TestSumsHalfWay(t *testing.T) {
	d := dice(11)
	for i := range 1500 {
		a := d.near(1000)
		if i%3 == 0 {
			// Below a power of two the distance is another one than above it.
			a = a &^ (1<<52 - 1)
		}
		if a>>52&0x7ff < 60 {
			continue
		}
		last := value(a&^(1<<52-1) | 1)
		last.Sub(last, value(a&^(1<<52-1)))
		for _, part := range []int64{1, 2, 3, 6} {
			x := new(big.Rat).Mul(last, big.NewRat(part, 4))
			for _, b := range beside(x) {
				check(t, "Add", a, b, num.Add(a, b), exactAdd(a, b))
				check(t, "Add", b, a, num.Add(b, a), exactAdd(b, a))
				check(t, "Sub", a, b, num.Sub(a, b), exactSub(a, b))
				check(t, "Sub", b, a, num.Sub(b, a), exactSub(b, a))
			}
		}
	}
}

// A product of two numbers of 27 bits has 54 at most: one more than there is room for.
func TestProductsHalfWay(t *testing.T) {
	d := dice(12)
	ties := 0
	for range 3000 {
		a := rounded(new(big.Rat).SetInt64(int64(d.number()>>37 | 1)))
		b := rounded(new(big.Rat).SetInt64(int64(d.number()>>37 | 1)))
		exact := new(big.Rat).Mul(value(a), value(b))
		if got := num.Mul(a, b); value(got).Cmp(exact) != 0 && distance(exact, got).Cmp(big.NewRat(1, 1)) == 0 {
			ties++
		}
		for _, x := range []api.Num{a - 1, a, a + 1} {
			check(t, "Mul", x, b, num.Mul(x, b), exactMul(x, b))
			check(t, "Mul", x|sign, b, num.Mul(x|sign, b), exactMul(x|sign, b))
		}
	}
	if ties < 100 {
		t.Errorf("only %d products half way", ties)
	}
}

// Among the subnormal numbers, and at the bound to them, products and quotients fall half way, too.
func TestSmallProductsAndQuotients(t *testing.T) {
	d := dice(13)
	for i := range 4000 {
		b := api.Num(1023-d.below(60)) << 52
		a := api.Num(d.number() >> (12 + d.below(52)))
		switch i % 4 {
		case 1:
			a |= api.Num(d.below(60)) << 52
		case 2:
			b |= api.Num(d.number() >> 12)
			a |= api.Num(d.below(60)) << 52
		case 3:
			a = normal + api.Num(d.below(7)) - 3
			b = one + api.Num(d.below(7)) - 3
		}
		inverse := api.Num(2046)<<52 - b&^(1<<52-1) | b&(1<<52-1)
		check(t, "Mul", a, b, num.Mul(a, b), exactMul(a, b))
		check(t, "Mul", b, a, num.Mul(b, a), exactMul(b, a))
		check(t, "Div", a, inverse, num.Div(a, inverse), exactDiv(a, inverse))
		check(t, "Div", a|sign, inverse, num.Div(a|sign, inverse), exactDiv(a|sign, inverse))
	}
}

// Near 2^1024 - 2^970, the last finite number or an infinity is the result.
func TestGreatResults(t *testing.T) {
	for _, x := range []struct {
		name string
		got  api.Num
		want api.Num
	}{
		{"the greatest and half of its last bit", num.Add(greatest, 0x7c90000000000000), inf},
		{"the greatest and just less than that", num.Add(greatest, 0x7c8fffffffffffff), greatest},
		{"the greatest, negative, and half of its last bit", num.Add(greatest|sign, 0xfc90000000000000), inf | sign},
		{"the greatest, negative, and just less than that", num.Sub(greatest|sign, 0x7c8fffffffffffff), greatest | sign},
		{"the greatest, twice", num.Add(greatest, greatest), inf},
		{"the greatest less itself", num.Sub(greatest, greatest), 0},
		{"the greatest by 1 and a bit", num.Mul(greatest, one+1), inf},
		{"the greatest by less than 1", num.Div(greatest, one-1), inf},
		{"the greatest by 1", num.Mul(greatest, one), greatest},
		{"2^1023 by -2", num.Mul(0x7fe0000000000000, 0xc000000000000000), inf | sign},
	} {
		check(t, x.name, 0, 0, x.got, x.want)
	}
	d := dice(14)
	for range 2000 {
		a, b := greatest-api.Num(d.below(1<<20)), 0x7c80000000000000+api.Num(d.number()>>9)
		check(t, "Add", a, b, num.Add(a, b), exactAdd(a, b))
		b = one - 8 + api.Num(d.below(16))
		check(t, "Mul", a, b, num.Mul(a, b), exactMul(a, b))
		check(t, "Div", a, b, num.Div(a, b), exactDiv(a, b))
	}
}

func TestModOfNumbersFarApart(t *testing.T) {
	d := dice(15)
	for range 1500 {
		a := d.finite() | api.Num(1024+d.below(1000))<<52&0x7fe0000000000000
		b := d.finite() & 0x8fffffffffffffff
		check(t, "Mod", a, b, num.Mod(a, b), exactMod(a, b))
		b = api.Num(d.number() >> (12 + d.below(52)))
		check(t, "Mod", a, b, num.Mod(a, b), exactMod(a, b))
		check(t, "Mod", b, a, num.Mod(b, a), exactMod(b, a))
	}
	for _, x := range []struct{ a, b, want api.Num }{
		{greatest, 1, 0},
		{greatest | sign, 1, sign},
		{greatest, normal - 1, exactMod(greatest, normal-1)},
		{greatest, 3, exactMod(greatest, 3)},
		{1, greatest, 1},
		{greatest, greatest, 0},
		{greatest, greatest - 1, 0x7ca0000000000000},
		{greatest - 1, greatest, greatest - 1},
		{normal, normal - 1, 1},
	} {
		check(t, "Mod", x.a, x.b, num.Mod(x.a, x.b), x.want)
	}
}

// Numbers whose quotient is near an integer, of any distance and with common bits.
func TestModNearMultiples(t *testing.T) {
	d := dice(16)
	for range 3000 {
		b := d.near(30)
		times := int64(d.number() >> (12 + d.below(52)))
		for _, a := range beside(new(big.Rat).Mul(value(b), new(big.Rat).SetInt64(times))) {
			check(t, "Mod", a, b, num.Mod(a, b), exactMod(a, b))
			check(t, "Mod", a^sign, b, num.Mod(a^sign, b), exactMod(a^sign, b))
		}
	}
}

func TestSqrt(t *testing.T) {
	all := some(3000, 17)
	d := dice(18)
	for range 2000 {
		// A root half way between two numbers has no square among them, but its square has neighbours there.
		root := d.near(500) &^ sign
		for _, x := range []*big.Rat{value(root), middle(root, root+1)} {
			all = append(all, beside(new(big.Rat).Mul(x, x))...)
		}
	}
	for _, a := range all {
		got := num.Sqrt(a)
		switch {
		case isNaN(a):
			check(t, "Sqrt", a, 0, got, theNaN)
		case isZero(a) || a == inf:
			check(t, "Sqrt", a, 0, got, a)
		case signOf(a) != 0:
			check(t, "Sqrt", a, 0, got, theNaN)
		case !isRoot(a, got):
			t.Errorf("Sqrt(%x) = %x", a, got)
		}
	}
}

func TestSqrtAtEdges(t *testing.T) {
	for _, x := range []struct{ a, want api.Num }{
		{0, 0}, {sign, sign}, {inf, inf}, {inf | sign, theNaN}, {1 | sign, theNaN}, {greatest | sign, theNaN}, {one | sign, theNaN},
		{1, 0x1e60000000000000}, {one, one}, {one + 1, one}, {one + 2, one + 1}, {one - 1, one - 1}, {0x4010000000000000, 0x4000000000000000}, {greatest, 0x5fefffffffffffff},
	} {
		check(t, "Sqrt", x.a, 0, num.Sqrt(x.a), x.want)
	}
}

// What one number alone tells of its sign.
func TestNegAbsAndSgn(t *testing.T) {
	for _, a := range some(500, 19) {
		neg, abs, sgn := a^sign, a&^sign, one|signOf(a)
		if isZero(a) {
			sgn = a
		}
		if isNaN(a) {
			neg, abs, sgn = theNaN, theNaN, theNaN
		}
		check(t, "Neg", a, 0, num.Neg(a), neg)
		check(t, "Abs", a, 0, num.Abs(a), abs)
		check(t, "Sgn", a, 0, num.Sgn(a), sgn)
	}
}

func TestFloorCeilAndTrunc(t *testing.T) {
	all := some(3000, 20)
	d := dice(21)
	for range 2000 {
		n := int64(d.number()>>(1+d.below(63))) * int64(1-2*d.below(2))
		for _, parts := range []int64{1, 2, 4, 1024} {
			all = append(all, beside(big.NewRat(n, parts))...)
		}
	}
	for _, a := range all {
		check(t, "Floor", a, 0, num.Floor(a), exactWhole(a, floored))
		check(t, "Ceil", a, 0, num.Ceil(a), exactWhole(a, ceiled))
		check(t, "Trunc", a, 0, num.Trunc(a), exactWhole(a, truncated))
	}
}

func TestFloorCeilAndTruncAtEdges(t *testing.T) {
	for _, x := range []struct{ a, floor, ceil, trunc api.Num }{
		{0, 0, 0, 0},
		{sign, sign, sign, sign},
		{half, 0, one, 0},
		{half | sign, one | sign, sign, sign},
		{1, 0, one, 0},
		{1 | sign, one | sign, sign, sign},
		{one - 1, 0, one, 0},
		{(one - 1) | sign, one | sign, sign, sign},
		{one, one, one, one},
		{0xc004000000000000, 0xc008000000000000, 0xc000000000000000, 0xc000000000000000},
		{0x4004000000000000, 0x4000000000000000, 0x4008000000000000, 0x4000000000000000},
		{0x432fffffffffffff, 0x432ffffffffffffe, 0x4330000000000000, 0x432ffffffffffffe},
		{0x4330000000000001, 0x4330000000000001, 0x4330000000000001, 0x4330000000000001},
		{greatest, greatest, greatest, greatest},
		{inf, inf, inf, inf},
		{inf | sign, inf | sign, inf | sign, inf | sign},
		{0xfff0000000000001, theNaN, theNaN, theNaN},
	} {
		check(t, "Floor", x.a, 0, num.Floor(x.a), x.floor)
		check(t, "Ceil", x.a, 0, num.Ceil(x.a), x.ceil)
		check(t, "Trunc", x.a, 0, num.Trunc(x.a), x.trunc)
	}
}

func TestFloorAndCeilEncloseTheNumber(t *testing.T) {
	for _, a := range some(1000, 22) {
		if !isFinite(a) {
			continue
		}
		floor, ceil := num.Floor(a), num.Ceil(a)
		if c, ok := num.Cmp(floor, a); !ok || c > 0 {
			t.Errorf("Floor(%x) = %x is greater", a, floor)
		}
		if c, ok := num.Cmp(ceil, a); !ok || c < 0 {
			t.Errorf("Ceil(%x) = %x is less", a, ceil)
		}
		if !value(floor).IsInt() || !value(ceil).IsInt() {
			t.Errorf("%x: %x and %x are not both whole", a, floor, ceil)
		}
	}
}

func TestMinAndMax(t *testing.T) {
	all := some(20, 23)
	for _, a := range all {
		for _, b := range all {
			least, most := a, a
			switch {
			case isNaN(a) && isNaN(b):
				least, most = theNaN, theNaN
			case isNaN(a):
				least, most = b, b
			case isNaN(b):
			case compared(a, b) > 0:
				least = b
			case compared(a, b) < 0:
				most = b
			}
			check(t, "Min", a, b, num.Min(a, b), least)
			check(t, "Max", a, b, num.Max(a, b), most)
		}
	}
}

func TestMinAndMaxAtEdges(t *testing.T) {
	for _, x := range []struct{ a, b, least, most api.Num }{
		{0, sign, 0, 0},
		{sign, 0, sign, sign},
		{theNaN, 0x4008000000000000, 0x4008000000000000, 0x4008000000000000},
		{0x4008000000000000, 0xfff0000000000001, 0x4008000000000000, 0x4008000000000000},
		{0x7ff0000000000002, 0xffffffffffffffff, theNaN, theNaN},
		{0x7ff0000000000002, 0x7ff0000000000002, theNaN, theNaN},
		{theNaN, inf | sign, inf | sign, inf | sign},
		{inf, theNaN, inf, inf},
		{inf | sign, inf, inf | sign, inf},
		{one | sign, one, one | sign, one},
	} {
		check(t, "Min", x.a, x.b, num.Min(x.a, x.b), x.least)
		check(t, "Max", x.a, x.b, num.Max(x.a, x.b), x.most)
	}
}

func TestNearest(t *testing.T) {
	d := dice(24)
	var pairs [][2]api.Num
	for _, a := range edges() {
		for _, b := range edges() {
			pairs = append(pairs, [2]api.Num{a, b})
		}
	}
	for range 3000 {
		pairs = append(pairs, [2]api.Num{d.near(10), d.near(6)}, [2]api.Num{d.any(), d.any()})
	}
	for _, p := range pairs {
		i := exactDiv(one, p[1])
		floor := exactWhole(exactAdd(exactMul(p[0], i), half), floored)
		check(t, "Nearest", p[0], p[1], num.Nearest(p[0], p[1]), exactDiv(floor, i))
	}
}

func TestNearestInPlainNumbers(t *testing.T) {
	for _, x := range []struct{ a, b, want float64 }{
		{7, 2, 8}, {2.5, 0.5, 2.5}, {5, 2, 6}, {-5, 2, -4}, {-7, 2, -6}, {-7.5, 2, -8}, {2.5, 1, 3}, {-2.5, 1, -2}, {2.4, 1, 2}, {7, -2, 6}, {0.25, 0.5, 0.5},
	} {
		check(t, "Nearest", bitsOf(x.a), bitsOf(x.b), num.Nearest(bitsOf(x.a), bitsOf(x.b)), bitsOf(x.want))
	}
}

func TestDegAndRad(t *testing.T) {
	const pi, half180 = 0x400921fb54442d18, 0x4066800000000000
	for _, a := range some(1500, 25) {
		check(t, "Deg", a, 0, num.Deg(a), exactDiv(exactMul(a, half180), pi))
		check(t, "Rad", a, 0, num.Rad(a), exactDiv(exactMul(a, pi), half180))
	}
	check(t, "Deg", pi, 0, num.Deg(pi), half180)
	check(t, "Rad", half180, 0, num.Rad(half180), pi)
	// The product comes first: it may be too great.
	check(t, "Deg", greatest, 0, num.Deg(greatest), inf)
	check(t, "Rad", greatest, 0, num.Rad(greatest), inf)
}

// summed adds as the chapter says.
func summed(l []api.Num) api.Num {
	sum := api.Num(0)
	for _, a := range l {
		sum = exactAdd(sum, a)
	}
	return sum
}

func TestSumAndMean(t *testing.T) {
	d := dice(26)
	for n := range 40 {
		for kind := range 8 {
			var l []api.Num
			for range n {
				l = append(l, []api.Num{d.near(3), d.near(60), d.finite()}[min(kind, 2)])
			}
			if kind == 7 && n > 0 {
				l[d.below(n)] = edges()[d.below(len(edges()))]
			}
			before := slices.Clone(l)
			sum := summed(l)
			if got := num.Sum(l...); got != sum {
				t.Errorf("Sum(%x) = %x, want %x", l, got, sum)
			}
			mean := exactDiv(sum, exactInt(n))
			if got := num.Mean(l...); got != mean {
				t.Errorf("Mean(%x) = %x, want %x", l, got, mean)
			}
			if !slices.Equal(l, before) {
				t.Errorf("%x became %x", before, l)
			}
		}
	}
}

func exactInt(n int) api.Num {
	if n == 0 {
		return 0
	}
	return rounded(new(big.Rat).SetInt64(int64(n)))
}

func TestSumAndMeanOfFew(t *testing.T) {
	const two, great = 0x4000000000000000, 0x4340000000000000
	for _, x := range []struct {
		l         []api.Num
		sum, mean api.Num
	}{
		{nil, 0, theNaN},
		{[]api.Num{}, 0, theNaN},
		{[]api.Num{0}, 0, 0},
		{[]api.Num{sign}, 0, 0},
		{[]api.Num{sign, sign}, 0, 0},
		{[]api.Num{one}, one, one},
		{[]api.Num{0xfff0000000000001}, theNaN, theNaN},
		{[]api.Num{0x7ff8000000000000}, theNaN, theNaN},
		{[]api.Num{one, theNaN, one}, theNaN, theNaN},
		{[]api.Num{inf}, inf, inf},
		{[]api.Num{inf, inf | sign}, theNaN, theNaN},
		{[]api.Num{one, two}, 0x4008000000000000, 0x3ff8000000000000},
		// From the first to the last: each 1 alone is lost beside 2^53, both together are not.
		{[]api.Num{great, one, one}, great, 0x4325555555555555},
		{[]api.Num{one, one, great}, great + 1, 0x4325555555555557},
		{[]api.Num{greatest, greatest, greatest | sign}, inf, inf},
		{[]api.Num{greatest, greatest | sign, greatest}, greatest, exactDiv(greatest, 0x4008000000000000)},
	} {
		if got := num.Sum(x.l...); got != x.sum {
			t.Errorf("Sum(%x) = %x, want %x", x.l, got, x.sum)
		}
		if got := num.Mean(x.l...); got != x.mean {
			t.Errorf("Mean(%x) = %x, want %x", x.l, got, x.mean)
		}
	}
}

// What lies behind the arguments has no say, and stays as it is.
func TestSumAndMeanOfAPiece(t *testing.T) {
	all := []api.Num{theNaN, one, one, theNaN, inf}
	before := slices.Clone(all)
	if got := num.Sum(all[1:3]...); got != 0x4000000000000000 {
		t.Errorf("Sum = %x", got)
	}
	if got := num.Mean(all[1:3]...); got != one {
		t.Errorf("Mean = %x", got)
	}
	if !slices.Equal(all, before) {
		t.Errorf("%x became %x", before, all)
	}
}

// Every operation but Min and Max, and every function but the named cases of Pow, makes the one NaN of any other.
func TestNaNsMakeTheNaN(t *testing.T) {
	others := []api.Num{0, sign, one, one | sign, half, 0x4008000000000000, inf, inf | sign, greatest, 1, theNaN, 0xfff0000000000001}
	pairs := []binary{num.Nearest, num.Add, num.Sub, num.Mul, num.Div, num.Mod, num.Atan2}
	for _, a := range someNaNs() {
		for i, call := range singles() {
			if got := call(a); got != theNaN {
				t.Errorf("function %d of %x = %x", i, a, got)
			}
		}
		for i, call := range pairs {
			for _, b := range others {
				if got := call(a, b); got != theNaN {
					t.Errorf("function %d of %x and %x = %x", i, a, b, got)
				}
				if got := call(b, a); got != theNaN {
					t.Errorf("function %d of %x and %x = %x", i, b, a, got)
				}
			}
		}
		for _, b := range others {
			for _, l := range [][]api.Num{{a}, {a, b}, {b, a}} {
				if num.Sum(l...) != theNaN || num.Mean(l...) != theNaN {
					t.Errorf("Sum or Mean of %x", l)
				}
			}
		}
	}
}

// singles are all calls of one number that answer another one.
func singles() []unary {
	return []unary{
		num.Neg, num.Abs, num.Sgn, num.Sqrt, num.Floor, num.Ceil, num.Trunc, num.Deg, num.Rad,
		num.Exp, num.Ln, num.Log2, num.Log10, num.Sin, num.Cos, num.Tan, num.Asin, num.Acos, num.Atan,
		num.Sinh, num.Cosh, num.Tanh, num.Asinh, num.Acosh, num.Atanh,
	}
}

// Whatever the bits are, a NaN that comes out is the one.
func TestNoOtherNaNComesOut(t *testing.T) {
	all := some(100, 27)
	for _, a := range all {
		for i, call := range singles() {
			if got := call(a); isNaN(got) && got != theNaN {
				t.Errorf("function %d of %x = %x", i, a, got)
			}
		}
	}
	for _, call := range []binary{num.Nearest, num.Add, num.Sub, num.Mul, num.Div, num.Mod, num.Pow, num.Atan2, num.Min, num.Max} {
		for _, a := range all[:130] {
			for _, b := range all[:130] {
				if got := call(a, b); isNaN(got) && got != theNaN {
					t.Errorf("of %x and %x: %x", a, b, got)
				}
			}
		}
	}
}

func TestAddAndMulAreCommutative(t *testing.T) {
	d := dice(28)
	all := some(30, 29)
	for _, a := range all {
		for _, b := range all {
			check(t, "Add", a, b, num.Add(a, b), num.Add(b, a))
			check(t, "Mul", a, b, num.Mul(a, b), num.Mul(b, a))
		}
		b := d.any()
		check(t, "Add", a, b, num.Add(a, b), num.Add(b, a))
		check(t, "Mul", a, b, num.Mul(a, b), num.Mul(b, a))
	}
}

func TestNegTwiceAndSubOfItself(t *testing.T) {
	for _, a := range some(1000, 30) {
		if !isNaN(a) {
			check(t, "Neg of Neg", a, 0, num.Neg(num.Neg(a)), a)
		}
		if isFinite(a) {
			check(t, "Sub", a, a, num.Sub(a, a), 0)
		}
	}
}

func TestSubIsAddOfNeg(t *testing.T) {
	all := some(20, 31)
	for _, a := range all {
		for _, b := range all {
			check(t, "Sub", a, b, num.Sub(a, b), num.Add(a, num.Neg(b)))
		}
	}
}

func TestRoundingIsMonotone(t *testing.T) {
	d := dice(32)
	all := some(10, 33)
	for range 40 {
		c := d.near(60)
		if d.below(3) == 0 {
			c = all[d.below(len(all))]
		}
		for _, a := range all {
			for _, b := range []api.Num{all[d.below(len(all))], a + 1, a - 1, d.any(), a} {
				before, ok := num.Cmp(a, b)
				if !ok || before > 0 {
					continue
				}
				if after, ok := num.Cmp(num.Add(a, c), num.Add(b, c)); ok && after > 0 {
					t.Errorf("%x is not greater than %x, but with %x added it is", a, b, c)
				}
			}
		}
	}
}

func TestExamplesOfOperations(t *testing.T) {
	two, three := num.Int(2), num.Int(3)
	for _, x := range []struct {
		name      string
		got, want api.Num
	}{
		{"0.1 + 0.2", num.Add(0x3fb999999999999a, 0x3fc999999999999a), 0x3fd3333333333334},
		{"1 / 3", num.Div(num.Int(1), three), 0x3fd5555555555555},
		{"-7 mod 2", num.Mod(num.Int(-7), two), num.Int(-1)},
		{"5.5 mod -2", num.Mod(0x4016000000000000, num.Int(-2)), 0x3ff8000000000000},
		{"root of 2", num.Sqrt(two), 0x3ff6a09e667f3bcd},
		{"Int(9007199254740993)", num.Int(9007199254740993), 0x4340000000000000},
		{"both infinities", num.Add(num.Inf(false), num.Inf(true)), theNaN},
		{"both infinities, turned", num.Add(num.Inf(true), num.Inf(false)), theNaN},
		{"0 / 0", num.Div(0, 0), theNaN},
		{"root of -1", num.Sqrt(num.Int(-1)), theNaN},
		{"a NaN and 1", num.Add(0x7ff0000000000002, num.Int(1)), theNaN},
		{"1 - 1", num.Sub(num.Int(1), num.Int(1)), 0},
		{"Min of a NaN and 3", num.Min(0x7ff0000000000002, three), three},
		{"Nearest of 7 and 2", num.Nearest(num.Int(7), two), num.Int(8)},
		{"Nearest of 2.5 and 0.5", num.Nearest(0x4004000000000000, half), 0x4004000000000000},
	} {
		check(t, x.name, 0, 0, x.got, x.want)
	}
}
