package text_test

import (
	"math"
	"strings"
	"testing"

	"barograph/api"
	"barograph/text"
)

// The calls have these signatures.
var (
	_ func(api.Num) string                  = text.Show
	_ func(string) (api.Num, api.Errno)     = text.Number
	_ func(int64) (string, api.Errno)       = text.Duration
	_ func(string) (int64, api.Errno)       = text.ReadDuration
	_ func(int64) (string, api.Errno)       = text.Time
	_ func(string) (int64, api.Errno)       = text.ReadTime
	_ func(string) string                   = text.Quote
	_ func(string) (string, api.Errno, int) = text.Unquote
)

// shows asks for the text of a number above 0, and for that of the one below 0.
func shows(t *testing.T, a api.Num, want string) {
	t.Helper()
	if got := text.Show(a); got != want {
		t.Errorf("Show(%x) = %q, want %q", a, got, want)
	}
	if got := text.Show(a | sign); got != "-"+want {
		t.Errorf("Show(%x) = %q, want %q", a|sign, got, "-"+want)
	}
}

func TestExamplesOfShow(t *testing.T) {
	for _, x := range []struct {
		a    api.Num
		want string
	}{
		{bitsOf(0.1), "0.1"},
		{bitsOf(1e21), "1e+21"},
		{bitsOf(123456789012345680000), "123456789012345680000"},
		{1, "5e-324"},
		{bitsOf(0.000001), "0.000001"},
		{bitsOf(1.5e-7), "1.5e-7"},
		{0, "0"},
		{bitsOf(100), "100"},
	} {
		shows(t, x.a, x.want)
	}
}

func TestShowOfWhatIsNotFinite(t *testing.T) {
	for _, a := range []api.Num{theNaN, 0x7ff0000000000001, 0x7ff7ffffffffffff, 0x7ff8000000000000, 0x7fffffffffffffff, 0xfff0000000000001, 0xfff8000000000001, 0xffffffffffffffff} {
		if got := text.Show(a); got != "NaN" {
			t.Errorf("Show(%x) = %q", a, got)
		}
	}
	if got := text.Show(inf); got != "+Inf" {
		t.Error(got)
	}
	if got := text.Show(inf | sign); got != "-Inf" {
		t.Error(got)
	}
	if got := text.Show(0); got != "0" {
		t.Error(got)
	}
	if got := text.Show(sign); got != "-0" {
		t.Error(got)
	}
}

func TestShowOfBounds(t *testing.T) {
	for _, x := range []struct {
		a    api.Num
		want string
	}{
		{1, "5e-324"},
		{2, "1e-323"},
		{3, "1.5e-323"},
		{normal - 1, "2.225073858507201e-308"},
		{normal, "2.2250738585072014e-308"},
		{normal + 1, "2.225073858507202e-308"},
		{greatest - 1, "1.7976931348623155e+308"},
		{greatest, "1.7976931348623157e+308"},
		{bitsOf(1 << 53), "9007199254740992"},
		{bitsOf(1<<53 - 1), "9007199254740991"},
		{bitsOf(1<<53) + 1, "9007199254740994"},
	} {
		shows(t, x.a, x.want)
	}
}

// The nearest of several ones of the same length is taken, and it is not the first one, nor the last one, nor the one that a number with more digits is cut to.
func TestShowTakesTheNearest(t *testing.T) {
	for _, x := range []struct {
		a    api.Num
		want string
	}{
		// 4.94..e-324 is what all from 3e-324 to 7e-324 are read as; 9.88..e-324 what 8e-324, 9e-324 and 1e-323 are.
		{1, "5e-324"},
		{2, "1e-323"},
		// 1.97..e-323
		{4, "2e-323"},
		// 2^60 is 1152921504606846976, and up to ..047040 all are read as it, but down to ..911 only.
		{bitsOf(1 << 60), "1152921504606847000"},
		// 2^61 is 2305843009213693952.
		{bitsOf(1 << 61), "2305843009213694000"},
		{bitsOf(5e-45), "5e-45"},
		{bitsOf(9.5e-10), "9.5e-10"},
	} {
		shows(t, x.a, x.want)
	}
}

// Of two that are equally near, the one whose last digit is even is taken.
func TestShowTakesTheEvenOne(t *testing.T) {
	for _, x := range []struct {
		a    float64
		want string
	}{
		{1<<50 + 0.25, "1125899906842624.2"},
		{1<<50 + 0.75, "1125899906842624.8"},
		{1<<50 + 1.25, "1125899906842625.2"},
		{1<<50 + 1.75, "1125899906842625.8"},
		{1<<47 + 0.125, "140737488355328.12"},
		{1<<47 + 0.375, "140737488355328.38"},
		{1<<47 + 0.625, "140737488355328.62"},
		{1<<47 + 0.875, "140737488355328.88"},
		{1<<44 + 0.0625, "17592186044416.062"},
		{1<<44 + 0.1875, "17592186044416.188"},
	} {
		shows(t, bitsOf(x.a), x.want)
	}
	d := dice(7)
	for range 300 {
		x := float64(1<<50+d.below(1<<50)) + 0.25 + 0.5*float64(d.below(2))
		shows(t, bitsOf(x), shown(bitsOf(x)))
	}
	for p := 1; p <= 12; p++ {
		// An odd number of this part is half way between two decimals with p digits behind the point.
		part := math.Ldexp(1, -p-1)
		for s := 40; s <= 52; s++ {
			x := math.Ldexp(1, s-p) + part*float64(2*d.below(1000)+1)
			shows(t, bitsOf(x), shown(bitsOf(x)))
		}
	}
}

// The neighbours of a power of two are not equally far.
func TestShowOfPowersOfTwo(t *testing.T) {
	for n := -1074; n <= 1023; n++ {
		a := bitsOf(math.Ldexp(1, n))
		shows(t, a, shown(a))
		if n%7 == 0 {
			shows(t, a+1, shown(a+1))
		}
		if n%7 == 1 && a > 1 {
			shows(t, a-1, shown(a-1))
		}
	}
	for _, x := range []struct {
		a    float64
		want string
	}{
		{math.Ldexp(1, -1), "0.5"},
		{math.Ldexp(1, -44), "5.684341886080802e-14"},
		{math.Ldexp(1, 89), "6.189700196426902e+26"},
		{math.Ldexp(1, 122), "5.316911983139664e+36"},
		{math.Ldexp(1, -24), "5.960464477539063e-8"},
		{math.Ldexp(1, 1023), "8.98846567431158e+307"},
		{math.Ldexp(1, -1022), "2.2250738585072014e-308"},
		{math.Ldexp(1, -1023), "1.1125369292536007e-308"},
	} {
		shows(t, bitsOf(x.a), x.want)
	}
}

func TestShowIsTheShortest(t *testing.T) {
	for _, a := range edges() {
		if a == 0 || a == inf {
			continue
		}
		if got, want := text.Show(a), shown(a); got != want {
			t.Errorf("Show(%x) = %q, want %q", a, got, want)
		}
	}
	d := dice(11)
	for range 1500 {
		for _, a := range []api.Num{d.finite(), d.near(70), d.near(4), d.finite() >> (12 + d.below(50))} {
			if a > 0 {
				shows(t, a, shown(a))
			}
		}
	}
	for range 1500 {
		// Few digits, and the numbers beside them, which have many.
		a := rounded(decimal{bigInt(d.below(100000) + 1), d.below(60) - 40}.value())
		shows(t, a, shown(a))
		shows(t, a+1, shown(a+1))
	}
}

// Where the point stands hangs on k alone, and on whether there are fewer digits than that, as many, or more.
func TestShowAtEachWayToWrite(t *testing.T) {
	for _, x := range []struct {
		a    float64
		want string
	}{
		// k is -6
		{1e-7, "1e-7"},
		{1.2e-7, "1.2e-7"},
		{9.876543210123e-7, "9.876543210123e-7"},
		// k is -5
		{1e-6, "0.000001"},
		{1.2e-6, "0.0000012"},
		{9.876543210123e-6, "0.000009876543210123"},
		// k is -4
		{1e-5, "0.00001"},
		{1.2e-5, "0.000012"},
		// k is -1
		{0.01, "0.01"},
		{0.0125, "0.0125"},
		// k is 0
		{0.1, "0.1"},
		{0.75, "0.75"},
		{0.9999999999999999, "0.9999999999999999"},
		// k is 1
		{1, "1"},
		{1.5, "1.5"},
		{9.75, "9.75"},
		{9, "9"},
		// k is 2
		{10, "10"},
		{12, "12"},
		{12.5, "12.5"},
		{99.99, "99.99"},
		// n is k - 1, k, k + 1
		{12340, "12340"},
		{12345, "12345"},
		{12345.6, "12345.6"},
		// k is 16, 17
		{1234567890123456, "1234567890123456"},
		{12345678901234568, "12345678901234568"},
		{123456789012345.6, "123456789012345.6"},
		// k is 20
		{1e19, "10000000000000000000"},
		{12345678901234567000, "12345678901234567000"},
		// k is 21
		{1e20, "100000000000000000000"},
		{1.5e20, "150000000000000000000"},
		{999999999999999900000, "999999999999999900000"},
		// k is 22
		{1e21, "1e+21"},
		{1.5e21, "1.5e+21"},
		{1.234567890123456e21, "1.234567890123456e+21"},
		{9.99999999999999e21, "9.99999999999999e+21"},
		// the exponent has one digit, two, three, and no noughts ahead
		{1e-9, "1e-9"},
		{1e-10, "1e-10"},
		{1e-99, "1e-99"},
		{1e-100, "1e-100"},
		{1e99, "1e+99"},
		{1e100, "1e+100"},
		{2.5e300, "2.5e+300"},
	} {
		shows(t, bitsOf(x.a), x.want)
	}
	const some = "123456789"
	for k := -12; k <= 30; k++ {
		for n := 1; n <= len(some); n++ {
			a := rounded(decimal{bigInt(digitsOf(some[:n])), k - n}.value())
			shows(t, a, written(some[:n], k))
		}
	}
}

// A text has no more than it needs: no noughts at the end of a fraction, none ahead, no point without digits on both its sides.
func TestShowIsPlain(t *testing.T) {
	d := dice(13)
	for range 20000 {
		a := d.near(80)
		s := text.Show(a)
		mantissa, exponent, hasExponent := strings.Cut(s, "e")
		whole, fraction, hasPoint := strings.Cut(mantissa, ".")
		switch {
		case strings.Trim(whole+fraction, "0123456789") != "":
			t.Errorf("Show(%x) = %q has other bytes", a, s)
		case whole == "" || len(whole) > 1 && whole[0] == '0':
			t.Errorf("Show(%x) = %q begins with what it need not", a, s)
		case hasPoint && (fraction == "" || strings.HasSuffix(fraction, "0")):
			t.Errorf("Show(%x) = %q has noughts behind its digits", a, s)
		case hasExponent && (len(whole) != 1 || whole == "0" || len(exponent) < 2 || exponent[1] == '0'):
			t.Errorf("Show(%x) = %q has an exponent of another form", a, s)
		}
	}
}
