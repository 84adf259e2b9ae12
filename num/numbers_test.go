package num_test

import (
	"math"
	"math/big"
	"slices"
	"testing"

	"barograph/api"
	"barograph/num"
)

// The signatures that the chapter's lists have.
type (
	unary    = func(a api.Num) api.Num
	binary   = func(a, b api.Num) api.Num
	variadic = func(l ...api.Num) api.Num
)

// The calls have these signatures.
var (
	_ func(int64) api.Num            = num.Int
	_ func(api.Num) (int64, bool)    = num.Whole
	_ func() api.Num                 = num.NaN
	_ func(bool) api.Num             = num.Inf
	_ func(api.Num) bool             = num.IsNaN
	_ func(api.Num) bool             = num.IsInf
	_ func(a, b api.Num) (int, bool) = num.Cmp
	_ func(a, b api.Num) int         = num.Order
	_ []variadic                     = []variadic{num.Sum, num.Mean}
	_ []binary                       = []binary{num.Nearest, num.Add, num.Sub, num.Mul, num.Div, num.Mod, num.Pow, num.Atan2, num.Min, num.Max}
	_ []unary                        = []unary{num.Neg, num.Abs, num.Sgn, num.Sqrt, num.Floor, num.Ceil, num.Trunc, num.Deg, num.Rad}
	_ []unary                        = []unary{num.Exp, num.Ln, num.Log2, num.Log10, num.Sin, num.Cos, num.Tan, num.Asin, num.Acos, num.Atan}
	_ []unary                        = []unary{num.Sinh, num.Cosh, num.Tanh, num.Asinh, num.Acosh, num.Atanh}
)

func bitsOf(x float64) api.Num { return api.Num(math.Float64bits(x)) }

// some are the edges and numbers without a pattern.
func some(n int, seed dice) []api.Num {
	all := edges()
	for range n {
		all = append(all, seed.any(), seed.near(4), seed.near(70))
	}
	return all
}

// check holds one result against what is asked for.
func check(t *testing.T, call string, a, b, got, want api.Num) {
	t.Helper()
	if got != want {
		t.Errorf("%s(%x, %x) = %x, want %x", call, a, b, got, want)
	}
}

// integers are those at which the bits of a number run out, their neighbours, and some without a pattern.
func integers() []int64 {
	all := []int64{0, 1, -1, math.MaxInt64, math.MinInt64, math.MinInt64 + 1, math.MaxInt64 - 1, 9007199254740993}
	d := dice(1)
	for i := range 63 {
		for by := int64(-3); by <= 3; by++ {
			all = append(all, 1<<i+by, -1<<i+by)
		}
		// Half way between two numbers, and just beside it.
		if i > 53 {
			gap := int64(1) << (i - 52)
			for times := range int64(4) {
				middle := int64(1)<<i + times*gap + gap/2
				all = append(all, middle-1, middle, middle+1, -middle-1, -middle, -middle+1)
			}
		}
		all = append(all, int64(d.number()), int64(d.number()>>(i+1)), -int64(d.number()>>(i+1)))
	}
	for _, n := range []int64{511, 512, 513, 1023, 1024, 1025} {
		all = append(all, math.MaxInt64-n, math.MinInt64+n)
	}
	return all
}

func TestInt(t *testing.T) {
	for _, n := range integers() {
		want := api.Num(0)
		if n != 0 {
			want = rounded(new(big.Rat).SetInt64(n))
		}
		if got := num.Int(n); got != want {
			t.Errorf("Int(%d) = %x, want %x", n, got, want)
		}
	}
	for _, x := range []struct {
		n    int64
		want api.Num
	}{
		{0, 0}, {1, one}, {-1, one | sign}, {3, 0x4008000000000000},
		{1 << 53, 0x4340000000000000}, {1<<53 - 1, 0x433fffffffffffff}, {1<<53 + 1, 0x4340000000000000}, {1<<53 + 2, 0x4340000000000001}, {1<<53 + 3, 0x4340000000000002},
		{-1<<53 - 1, 0xc340000000000000}, {-1<<53 - 3, 0xc340000000000002},
		{math.MaxInt64, 0x43e0000000000000}, {math.MinInt64, 0xc3e0000000000000}, {math.MinInt64 + 1, 0xc3e0000000000000},
	} {
		if got := num.Int(x.n); got != x.want {
			t.Errorf("Int(%d) = %x, want %x", x.n, got, x.want)
		}
	}
}

func TestWhole(t *testing.T) {
	all := some(2000, 2)
	for _, n := range integers() {
		a := rounded(new(big.Rat).SetInt64(n | 1))
		all = append(all, a, a-1, a+1)
	}
	for _, a := range all {
		want, ok := int64(0), false
		if isFinite(a) && value(a).IsInt() && value(a).Num().IsInt64() {
			want, ok = value(a).Num().Int64(), true
		}
		if got, is := num.Whole(a); got != want || is != ok {
			t.Errorf("Whole(%x) = %d, %v, want %d, %v", a, got, is, want, ok)
		}
	}
}

func TestWholeAtEdges(t *testing.T) {
	for _, x := range []struct {
		a    api.Num
		want int64
		ok   bool
	}{
		{0, 0, true}, {sign, 0, true}, {one, 1, true}, {num.Int(-5), -5, true}, {half, 0, false}, {half | sign, 0, false}, {one + 1, 0, false}, {1, 0, false},
		{0x4330000000000001, 1<<52 + 1, true}, {0x4320000000000001, 0, false},
		{0x4340000000000000, 1 << 53, true}, {0x433fffffffffffff, 1<<53 - 1, true}, {0x4340000000000001, 1<<53 + 2, true},
		{0x43e0000000000000, 0, false}, {0x43dfffffffffffff, 1<<63 - 1024, true}, {0x43e0000000000001, 0, false},
		{0xc3e0000000000000, -1 << 63, true}, {0xc3dfffffffffffff, -1<<63 + 1024, true}, {0xc3e0000000000001, 0, false},
		{greatest, 0, false}, {inf, 0, false}, {inf | sign, 0, false}, {theNaN, 0, false}, {0xfff0000000000001, 0, false},
	} {
		if got, ok := num.Whole(x.a); got != x.want || ok != x.ok {
			t.Errorf("Whole(%x) = %d, %v, want %d, %v", x.a, got, ok, x.want, x.ok)
		}
	}
}

func TestWholeOfInt(t *testing.T) {
	for _, n := range append(integers(), 1<<53, -1<<53, 1<<53-1, -1<<53+1) {
		if n < -1<<53 || n > 1<<53 {
			continue
		}
		if got, ok := num.Whole(num.Int(n)); got != n || !ok {
			t.Errorf("Whole(Int(%d)) = %d, %v", n, got, ok)
		}
	}
}

func TestNaNAndInf(t *testing.T) {
	if got := num.NaN(); got != theNaN {
		t.Errorf("NaN() = %x", got)
	}
	if got := num.Inf(false); got != 0x7ff0000000000000 {
		t.Errorf("Inf(false) = %x", got)
	}
	if got := num.Inf(true); got != 0xfff0000000000000 {
		t.Errorf("Inf(true) = %x", got)
	}
}

func TestIsNaNAndIsInf(t *testing.T) {
	for _, a := range some(2000, 3) {
		if got := num.IsNaN(a); got != isNaN(a) {
			t.Errorf("IsNaN(%x) = %v", a, got)
		}
		if got := num.IsInf(a); got != isInf(a) {
			t.Errorf("IsInf(%x) = %v", a, got)
		}
	}
	for _, a := range someNaNs() {
		if !num.IsNaN(a) || num.IsInf(a) {
			t.Errorf("%x is a NaN", a)
		}
	}
	for _, a := range []api.Num{inf, inf | sign} {
		if num.IsNaN(a) || !num.IsInf(a) {
			t.Errorf("%x is an infinity", a)
		}
	}
	for _, a := range []api.Num{0, sign, 1, normal - 1, normal, greatest, greatest | sign, one} {
		if num.IsNaN(a) || num.IsInf(a) {
			t.Errorf("%x is finite", a)
		}
	}
}

// compared is the order of two values, of which neither is a NaN's.
func compared(a, b api.Num) int {
	side := func(a api.Num) int {
		switch a {
		case inf:
			return 1
		case inf | sign:
			return -1
		}
		return 0
	}
	if side(a) != 0 || side(b) != 0 {
		return side(a) - side(b)
	}
	return value(a).Cmp(value(b))
}

func signOfInt(n int) int {
	return max(min(n, 1), -1)
}

func TestCmp(t *testing.T) {
	all := some(20, 4)
	for _, a := range all {
		for _, b := range all {
			want, ok := 0, false
			if !isNaN(a) && !isNaN(b) {
				want, ok = signOfInt(compared(a, b)), true
			}
			if got, is := num.Cmp(a, b); got != want || is != ok {
				t.Errorf("Cmp(%x, %x) = %d, %v, want %d, %v", a, b, got, is, want, ok)
			}
		}
	}
}

// ordered is the order of any two numbers, as the chapter tells it.
func ordered(a, b api.Num) int {
	switch {
	case a == b:
		return 0
	case isNaN(a) && isNaN(b):
		if a < b {
			return -1
		}
		return 1
	case isNaN(a):
		return -1
	case isNaN(b):
		return 1
	case isZero(a) && isZero(b):
		if a == sign {
			return -1
		}
		return 1
	}
	return signOfInt(compared(a, b))
}

func TestOrder(t *testing.T) {
	all := some(20, 5)
	for _, a := range all {
		for _, b := range all {
			if got, want := num.Order(a, b), ordered(a, b); got != want {
				t.Errorf("Order(%x, %x) = %d, want %d", a, b, got, want)
			}
		}
	}
}

// A total order: 0 for the same bits alone, the opposite the other way round, and one row in which each comes before all that follow; wherever Cmp tells a difference it is the same.
func TestOrderIsTotal(t *testing.T) {
	all := some(40, 6)
	slices.Sort(all)
	all = slices.Compact(all)
	slices.SortFunc(all, num.Order)
	for i, a := range all {
		for j, b := range all {
			if got := num.Order(a, b); got != signOfInt(i-j) {
				t.Fatalf("Order(%x, %x) = %d, but they are in the places %d and %d", a, b, got, i, j)
			}
			if c, ok := num.Cmp(a, b); ok && c != 0 && num.Order(a, b) != c {
				t.Fatalf("Order(%x, %x) and Cmp, which is %d, do not agree", a, b, c)
			}
		}
	}
}

func TestOrderOfSomeInARow(t *testing.T) {
	row := []api.Num{
		0x7ff0000000000001, theNaN, 0x7fffffffffffffff, 0xfff0000000000001, 0xfff8000000000000, 0xffffffffffffffff,
		inf | sign, greatest | sign, one | sign, normal | sign, 1 | sign, sign, 0, 1, normal - 1, normal, half, one, one + 1, greatest, inf,
	}
	for i, a := range row {
		for j, b := range row {
			if got := num.Order(a, b); got != signOfInt(i-j) {
				t.Errorf("Order(%x, %x) = %d", a, b, got)
			}
		}
	}
}
