package text_test

import (
	"math"
	"math/big"
	"regexp"
	"strconv"
	"strings"
	"testing"

	"barograph/api"
	"barograph/num"
	"barograph/text"
)

func bigInt(n int) *big.Int { return big.NewInt(int64(n)) }

func digitsOf(s string) int {
	n, err := strconv.Atoi(s)
	if err != nil {
		panic(err)
	}
	return n
}

var (
	decimalForm = regexp.MustCompile(`^([+-]?)([0-9]*)\.?([0-9]*)(?:[eE]([+-]?[0-9]+))?$`)
	hexForm     = regexp.MustCompile(`^([+-]?)0[xX]([0-9a-fA-F]+)$`)
	infForm     = regexp.MustCompile(`^([+-]?)[iI][nN][fF]([iI][nN][iI][tT][yY])?$`)
	nanForm     = regexp.MustCompile(`^[+-]?[nN][aA][nN]$`)
)

// numberOf is what the chapter says of Number, word for word; false: the text has none of the forms.
func numberOf(s string) (api.Num, bool) {
	if len(s) > 1000 {
		return 0, false
	}
	if m := infForm.FindStringSubmatch(s); m != nil {
		return signed(m[1], inf), true
	}
	if nanForm.MatchString(s) {
		return theNaN, true
	}
	if m := hexForm.FindStringSubmatch(s); m != nil {
		n, _ := new(big.Int).SetString(m[2], 16)
		return signed(m[1], rounded(new(big.Rat).SetInt(n))), true
	}
	m := decimalForm.FindStringSubmatch(s)
	if m == nil || m[2]+m[3] == "" {
		return 0, false
	}
	n, _ := new(big.Int).SetString(m[2]+m[3], 10)
	if n.Sign() == 0 {
		return signed(m[1], 0), true
	}
	e := exponentOf(m[4])
	switch {
	case e > 2000:
		return signed(m[1], inf), true
	case e < -2000:
		return signed(m[1], 0), true
	}
	return signed(m[1], rounded(decimal{n, e - len(m[3])}.value())), true
}

// exponentOf is the exponent, or one that is beyond what a thousand digits could make up for.
func exponentOf(s string) int {
	if s == "" {
		return 0
	}
	e, _ := new(big.Int).SetString(strings.TrimPrefix(s, "+"), 10)
	if !e.IsInt64() || e.Int64() > 3000 || e.Int64() < -3000 {
		return e.Sign() * 3000
	}
	return int(e.Int64())
}

func signed(s string, a api.Num) api.Num {
	if s == "-" {
		return a | sign
	}
	return a
}

// reads asks for the number that a text tells.
func reads(t *testing.T, s string, want api.Num) {
	t.Helper()
	if got, e := text.Number(s); got != want || e != api.OK {
		t.Errorf("Number(%s) = %x, %v, want %x", short(s), got, e, want)
	}
}

// readsSigned asks for that, and for the same behind each sign.
func readsSigned(t *testing.T, s string, want api.Num) {
	t.Helper()
	reads(t, s, want)
	reads(t, "+"+s, want)
	reads(t, "-"+s, want|sign)
}

func refuses(t *testing.T, s string) {
	t.Helper()
	if got, e := text.Number(s); got != 0 || e != api.ErrTextNumber {
		t.Errorf("Number(%s) = %x, %v, want 0 and errno 40", short(s), got, e)
	}
}

// asTheChapter holds any text against what the chapter says of it.
func asTheChapter(t *testing.T, s string) {
	t.Helper()
	if want, ok := numberOf(s); ok {
		reads(t, s, want)
	} else {
		refuses(t, s)
	}
}

func short(s string) string {
	if len(s) > 80 {
		s = s[:80] + ".."
	}
	return strconv.Quote(s)
}

func TestExamplesOfNumber(t *testing.T) {
	reads(t, ".5", bitsOf(0.5))
	reads(t, "5.", bitsOf(5))
	reads(t, "-0x10", bitsOf(-16))
	reads(t, "1e400", inf)
	reads(t, "-iNf", inf|sign)
	for _, s := range []string{".", "1e", "0x", "1 "} {
		refuses(t, s)
	}
}

func TestNumberOfEachForm(t *testing.T) {
	for _, x := range []struct {
		s    string
		want float64
	}{
		{"0", 0}, {"00", 0}, {"0.0", 0}, {".0", 0}, {"0.", 0}, {"0e0", 0}, {"0e999999999999999999999999", 0}, {".0e-7", 0},
		{"7", 7}, {"007", 7}, {"7.", 7}, {"7.0", 7}, {".7", 0.7}, {"0.7", 0.7}, {"12.5", 12.5},
		{"7e1", 70}, {"7E1", 70}, {"7e+1", 70}, {"7e-1", 0.7}, {"7E-01", 0.7}, {"7.e2", 700}, {".7e2", 70}, {"1.25e2", 125}, {"1e00000000000000000000000000002", 100},
		{"0x0", 0}, {"0x1", 1}, {"0X1", 1}, {"0xff", 255}, {"0xFF", 255}, {"0xfF", 255}, {"0XaBcDeF", 0xabcdef}, {"0x0123456789", 0x123456789}, {"0x0000000000000000000000000000a", 10}, {"0x1e5", 0x1e5}, {"0xe", 14},
	} {
		readsSigned(t, x.s, bitsOf(x.want))
	}
}

func TestNumberJustBesideAForm(t *testing.T) {
	for _, s := range []string{
		"", "+", "-", ".", "+.", "-.", "..", "1..", "..1", "1.2.3", ".e5", "e5", "e", "E", "+e5", "1e", "1e+", "1e-", "1E", "1.e", ".5e", ".5e+", "1e5.", "1e5.5", "1e.5", "1ee5", "1e5e5", "1e++5", "1e+-5", "1e5+", "1e 5",
		"++1", "--1", "+-1", "-+1", "1+", "1-", "1+1", " 1", "1 ", "\t1", "1\n", "1\x00", "\x001", "1_0", "_1", "1_", "0x_1", "0x1_0", "1,0", "1'0", "(1)", "1f", "1d", "0b1", "0o7", "0B1", "0O7", "b1", "1h",
		"0x", "0X", "+0x", "-0X", "0x.", "0x1.", "0x1.8", "0x.8", "0x1p", "0x1p3", "0x1P-3", "0xg", "0x1g", "0xG", "0x 1", "0x-1", "0x+1", "00x1", "x1", "x", "0xx1", "0x0x1", "1x1", "0x1e+5", "0y1", "\x10x1", "\x10X1",
		"in", "i", "infi", "infin", "infini", "infinit", "infinityy", "inff", "inf1", "inf.", "1inf", "inf ", " inf", "--inf", "inf-", "iinf", "infinf", "infinity5", "ınf", "İnf", "inﬁnity", "\x29nf", "i\x0ef", "Infinitу",
		"na", "n", "nann", "nan1", "1nan", "nan ", "--nan", "nan(1)", "nanf", "+-nan", "n\x01n", "ñan", "nil", "null", "none", "true",
		"１", "٣", "½", "∞", "−1", "1\xff", "\xff", "\xc2", "1e\xff",
		"0\xd85", "1:", "1/", "0x`", "0x@", "0x:", "0x/", "0xf[", "0x{",
	} {
		refuses(t, s)
	}
}

// All texts of a few of the bytes that the forms are made of are read as the chapter says.
func TestNumberOfAllShortTexts(t *testing.T) {
	const letters = "+-.019eExXaF_ "
	var grow func(s string, left int)
	grow = func(s string, left int) {
		asTheChapter(t, s)
		if left == 0 || t.Failed() {
			return
		}
		for i := range len(letters) {
			grow(s+letters[i:i+1], left-1)
		}
	}
	grow("", 4)
	for _, head := range []string{"1.5", "1e1", "0x1", "-0x", "+.5e", "9e-"} {
		grow(head, 3)
	}
}

// Texts of each form are changed at one place, by any byte.
func TestNumberOfChangedTexts(t *testing.T) {
	for _, s := range []string{"0", "12", "1.5", ".5", "5.", "-1.5e+10", "+2E-3", "0x1F", "-0Xa", "inf", "+INF", "-Infinity", "nan", "NaN", "-nAn"} {
		for at := range len(s) + 1 {
			for c := range 256 {
				asTheChapter(t, s[:at]+string([]byte{byte(c)})+s[at:])
				if at < len(s) {
					asTheChapter(t, s[:at]+string([]byte{byte(c)})+s[at+1:])
				}
			}
			if at < len(s) {
				asTheChapter(t, s[:at]+s[at+1:])
			}
			asTheChapter(t, s[:at])
		}
	}
}

func TestNumberOfWordsInMixedCases(t *testing.T) {
	for _, x := range []struct {
		word string
		want api.Num
	}{{"inf", inf}, {"infinity", inf}, {"nan", theNaN}} {
		for cases := range 1 << len(x.word) {
			b := []byte(x.word)
			for i := range b {
				if cases>>i&1 == 1 {
					b[i] -= 'a' - 'A'
				}
			}
			reads(t, string(b), x.want)
			reads(t, "+"+string(b), x.want)
			if x.want == inf {
				reads(t, "-"+string(b), inf|sign)
			} else {
				reads(t, "-"+string(b), theNaN)
			}
		}
	}
	if text.Show(theNaN) != "NaN" || theNaN != num.NaN() {
		t.Error("the tests' NaN is not THE NaN")
	}
}

// decimalOf is the exact decimal of a number whose denominator is a power of two, with a digit more behind it: more is added to that last one.
func decimalOf(x *big.Rat, more int64) string {
	places := x.Denom().BitLen()
	scaled := new(big.Rat).Mul(x, powerOf(10, places))
	if !scaled.IsInt() {
		panic("not an exact decimal")
	}
	n := new(big.Int).Mul(scaled.Num(), big.NewInt(10))
	n.Add(n, big.NewInt(more))
	return n.String() + "e-" + strconv.Itoa(places+1)
}

// positional writes such a decimal without an exponent.
func positional(s string) string {
	digits, e, _ := strings.Cut(s, "e-")
	places := digitsOf(e)
	if len(digits) <= places {
		digits = strings.Repeat("0", places-len(digits)+1) + digits
	}
	return digits[:len(digits)-places] + "." + strings.TrimRight(digits[len(digits)-places:], "0")
}

// halfWay are a number, its neighbour, and texts half way between them and just beside that.
func halfWay(t *testing.T, a api.Num) {
	t.Helper()
	even := a + a&1
	middle := bound(a)
	for _, x := range []struct {
		s    string
		want api.Num
	}{{decimalOf(middle, -1), a}, {decimalOf(middle, 0), even}, {decimalOf(middle, 1), a + 1}} {
		if !roundsTo(middle, even) {
			t.Errorf("%x is not what the middle is rounded to", even)
		}
		if len(x.s) < 1000 {
			readsSigned(t, x.s, x.want)
		}
		if p := positional(x.s); len(p) < 1000 {
			readsSigned(t, p, x.want)
		}
	}
}

func TestNumberHalfWay(t *testing.T) {
	for _, a := range []api.Num{0, 1, 2, 3, normal - 2, normal - 1, normal, normal + 1, one - 1, one, one + 1, bitsOf(1<<53) - 1, bitsOf(1 << 53), bitsOf(1<<53) + 1, bitsOf(0.1), bitsOf(1e22), bitsOf(1e23), greatest - 1, greatest} {
		halfWay(t, a)
	}
	for n := -1074; n <= 1023; n += 9 {
		a := bitsOf(math.Ldexp(1, n))
		halfWay(t, a)
		halfWay(t, a-1)
	}
	d := dice(17)
	for range 300 {
		halfWay(t, d.finite())
		halfWay(t, d.near(60))
		halfWay(t, d.finite()>>12)
	}
}

// More digits than 19, 800 or 900 may tell what lies beside the middle.
func TestNumberByItsLastDigit(t *testing.T) {
	for _, x := range []struct {
		head string
		at   api.Num
		even api.Num
	}{
		{"9007199254740993", bitsOf(1 << 53), bitsOf(1 << 53)},
		{"9007199254740995", bitsOf(1<<53) + 1, bitsOf(1<<53) + 2},
		{"1.00000000000000011102230246251565404236316680908203125", one, one},
		{"1.00000000000000033306690738754696212708950042724609375", one + 1, one + 2},
	} {
		head := x.head
		if !strings.Contains(head, ".") {
			head += "."
		}
		for _, size := range []int{70, 100, 700, 799, 800, 801, 802, 900, 999} {
			noughts := strings.Repeat("0", size-len(head))
			readsSigned(t, head+noughts, x.even)
			readsSigned(t, head+noughts[1:]+"1", x.at+1)
			readsSigned(t, head+noughts[10:]+"0000000001", x.at+1)
		}
		reads(t, head+strings.Repeat("0", 999-len(head))+"1", x.at+1)
	}
	// Just below a middle: the last digit of its decimal less one, and nines.
	readsSigned(t, "9007199254740992."+strings.Repeat("9", 980), bitsOf(1<<53))
	readsSigned(t, "9007199254740994."+strings.Repeat("9", 980), bitsOf(1<<53)+1)
	readsSigned(t, "0."+strings.Repeat("9", 900), one)
	readsSigned(t, strings.Repeat("9", 900)+"e-900", one)
	// The middles of the subnormal numbers have the most digits of all, some 750.
	middle := decimalOf(bound(1), 0)
	digits, e, _ := strings.Cut(middle, "e-")
	if len(digits) < 750 {
		t.Errorf("the middle has %d digits only", len(digits))
	}
	for more := 1; more < 200; more += 33 {
		places := "e-" + strconv.Itoa(digitsOf(e)+more)
		readsSigned(t, digits+strings.Repeat("0", more)+places, 2)
		readsSigned(t, digits+strings.Repeat("0", more-1)+"1"+places, 2)
		below := new(big.Int)
		below.SetString(digits+strings.Repeat("0", more), 10)
		below.Sub(below, big.NewInt(1))
		readsSigned(t, below.String()+places, 1)
	}
}

func TestNumberAtTheInfinity(t *testing.T) {
	for _, x := range []struct {
		s    string
		want api.Num
	}{
		{"1.7976931348623157e308", greatest},
		{"1.7976931348623158e308", greatest},
		{"1.7976931348623159e308", inf},
		{"1.797693134862315807e308", greatest},
		{"1.797693134862315808e308", inf},
		{"1.8e308", inf},
		{"1e308", bitsOf(1e308)},
		{"1e309", inf},
		{"0.1e309", bitsOf(1e308)},
		{"17976931348623157e292", greatest},
		{"17976931348623159e292", inf},
		{"0.00017976931348623157e312", greatest},
		{"1e4294967296", inf},
		{"1e4294967297", inf},
		{"1e18446744073709551616", inf},
		{"1e18446744073709551617", inf},
		{"1e99999999999999999999999999", inf},
		{"1e9223372036854775807", inf},
		{"1e9223372036854775808", inf},
		{"123456e9223372036854775800", inf},
		{"1.5e10001", inf},
		{"1" + strings.Repeat("0", 900) + ".5e9223372036854775807", inf},
		{"0." + strings.Repeat("0", 900) + "1e901", one},
		{"0." + strings.Repeat("0", 900) + "1e1209", bitsOf(1e308)},
		{"0." + strings.Repeat("0", 900) + "1e1210", inf},
		{"1" + strings.Repeat("0", 308), bitsOf(1e308)},
		{"1" + strings.Repeat("0", 309), inf},
		{"0x" + strings.Repeat("f", 256), inf},
		{"0x1" + strings.Repeat("0", 256), inf},
		{"0xfffffffffffff8" + strings.Repeat("0", 242), greatest},
		{"0xfffffffffffffb" + strings.Repeat("f", 242), greatest},
		{"0xfffffffffffffc" + strings.Repeat("0", 242), inf},
		{"0x7ffffffffffffc" + strings.Repeat("0", 242), greatest - 1<<52},
		{"0x7ffffffffffffe" + strings.Repeat("0", 242), 0x7fe0000000000000},
		{"0x" + strings.Repeat("f", 997), inf},
	} {
		readsSigned(t, x.s, x.want)
	}
	whole := positional(decimalOf(bound(greatest), 0))
	readsSigned(t, whole, inf)
	readsSigned(t, whole+"0001", inf)
	readsSigned(t, positional(decimalOf(bound(greatest), -1)), greatest)
}

func TestNumberAtZero(t *testing.T) {
	for _, x := range []struct {
		s    string
		want api.Num
	}{
		{"5e-324", 1},
		{"4.9e-324", 1},
		{"3e-324", 1},
		{"2.4703282292062328e-324", 1},
		{"2.4703282292062327e-324", 0},
		{"2e-324", 0},
		{"1e-324", 0},
		{"7.4e-324", 1},
		{"7.5e-324", 2},
		{"1e-400", 0},
		{"1e-4294967296", 0},
		{"1e-4294967297", 0},
		{"1e-18446744073709551616", 0},
		{"1e-99999999999999999999999999", 0},
		{"1e-9223372036854775807", 0},
		{"1e-9223372036854775808", 0},
		{"1e-9223372036854775809", 0},
		{"0.00001e-9223372036854775807", 0},
		{"1.5e-10001", 0},
		{"0e9223372036854775807", 0},
		{"00e-9223372036854775807", 0},
		{"0." + strings.Repeat("0", 323) + "5", 1},
		{"0." + strings.Repeat("0", 323) + "2", 0},
		{"1" + strings.Repeat("0", 900) + "e-900", one},
		{"5" + strings.Repeat("0", 600) + "e-924", 1},
		{"2" + strings.Repeat("0", 600) + "e-924", 0},
		{"2.2250738585072011e-308", normal - 1},
		{"2.2250738585072012e-308", normal},
		{"2.2250738585072014e-308", normal},
		{"0e400", 0},
		{"0.000e-400", 0},
		{"0x" + strings.Repeat("0", 900), 0},
	} {
		readsSigned(t, x.s, x.want)
	}
}

func TestNumberOfHexDigits(t *testing.T) {
	for _, x := range []struct {
		s    string
		want api.Num
	}{
		{"0x1fffffffffffff", bitsOf(1<<53 - 1)},
		{"0x20000000000000", bitsOf(1 << 53)},
		{"0x20000000000001", bitsOf(1 << 53)},
		{"0x20000000000002", bitsOf(1<<53) + 1},
		{"0x20000000000003", bitsOf(1<<53) + 2},
		{"0x2000000000000300", bitsOf(1<<61) + 2},
		{"0x20000000000001000000000000000000000000001", bitsOf(math.Ldexp(1, 53+27*4)) + 1},
		{"0x20000000000000fffffffffffffffffffffffffff", bitsOf(math.Ldexp(1, 53+27*4))},
		{"0x20000000000001000000000000000000000000000", bitsOf(math.Ldexp(1, 53+27*4))},
		{"0x20000000000003000000000000000000000000000", bitsOf(math.Ldexp(1, 53+27*4)) + 2},
		{"0xffffffffffffffff", bitsOf(1 << 64)},
		{"0x10000000000000000", bitsOf(1 << 64)},
		{"0x" + strings.Repeat("0", 996) + "1", one},
		{"0X" + strings.Repeat("0", 990) + "DeFaCE", bitsOf(0xdeface)},
	} {
		readsSigned(t, x.s, x.want)
	}
	d := dice(19)
	const digits = "0123456789abcdefABCDEF"
	for range 3000 {
		s := "0x"
		for range 1 + d.below(1+d.below(300)) {
			s += string(digits[d.below(len(digits))])
		}
		asTheChapter(t, s)
		asTheChapter(t, "-"+s)
		if len(s) > 20 {
			asTheChapter(t, s[:16]+strings.Repeat("0", len(s)-16))
			asTheChapter(t, s[:16]+"8"+strings.Repeat("0", len(s)-17))
			asTheChapter(t, s[:16]+"8"+strings.Repeat("0", len(s)-18)+"1")
		}
	}
}

func TestNumberOfAThousandBytes(t *testing.T) {
	noughts := strings.Repeat("0", 2000)
	for _, x := range []struct {
		head, tail string
		want       api.Num
	}{
		{"", "7", bitsOf(7)},
		{"-", "7", bitsOf(-7)},
		{"0x", "f", bitsOf(15)},
		{"-0X", "F", bitsOf(-15)},
		{"2.5", "", bitsOf(2.5)},
		{"2.5", "e1", bitsOf(25)},
		{"2.5e+", "1", bitsOf(25)},
		{".", "", 0},
		{"", ".", 0},
	} {
		for size := 990; size <= 1000; size++ {
			reads(t, x.head+noughts[:size-len(x.head)-len(x.tail)]+x.tail, x.want)
		}
		for size := 1001; size <= 1010; size++ {
			refuses(t, x.head+noughts[:size-len(x.head)-len(x.tail)]+x.tail)
		}
	}
	refuses(t, strings.Repeat("x", 1000))
	refuses(t, strings.Repeat("x", 1001))
	refuses(t, strings.Repeat("1", 1<<20))
}

// Decimals without a pattern, of up to a hundred digits, with a point anywhere and exponents around it.
func TestNumberOfManyDecimals(t *testing.T) {
	d := dice(23)
	for range 6000 {
		s := ""
		for range 1 + d.below(1+d.below(100)) {
			s += string(rune('0' + d.below(10)))
		}
		at := d.below(len(s) + 1)
		s = s[:at] + "." + s[at:]
		if d.below(4) > 0 {
			s += "e" + strconv.Itoa(d.below(700)-370)
		}
		asTheChapter(t, s)
		asTheChapter(t, "-"+s)
	}
}

func TestNumberReversesShow(t *testing.T) {
	for _, a := range edges() {
		reads(t, text.Show(a), a)
		reads(t, text.Show(a|sign), a|sign)
	}
	d := dice(29)
	for range 60000 {
		for _, a := range []api.Num{d.any(), d.near(80), d.finite() >> 12, d.any() | 0x7ff<<52} {
			if a&^sign > inf {
				reads(t, text.Show(a), theNaN)
			} else {
				reads(t, text.Show(a), a)
			}
		}
	}
}

// significant are the digits that tell a number, and its power of ten when a point stands ahead of them.
func significant(s string) (string, int) {
	mantissa, exponent, _ := strings.Cut(s, "e")
	e := 0
	if exponent != "" {
		e = digitsOf(strings.TrimPrefix(exponent, "+"))
	}
	whole, fraction, _ := strings.Cut(mantissa, ".")
	digits := whole + fraction
	plain := strings.TrimLeft(digits, "0")
	return strings.TrimRight(plain, "0"), e + len(whole) - (len(digits) - len(plain))
}

// A decimal with a digit fewer, the next one below the number and the next one above it, is read as another number.
func TestNoDecimalWithADigitFewer(t *testing.T) {
	d := dice(31)
	all := edges()
	for range 30000 {
		all = append(all, d.finite(), d.near(70), d.finite()>>12)
	}
	for _, a := range all {
		if a == 0 || a == inf {
			continue
		}
		digits, k := significant(text.Show(a))
		n := len(digits) - 1
		if n == 0 {
			continue
		}
		below := digitsOf(digits[:n])
		for _, fewer := range []int{below, below + 1} {
			s := strconv.Itoa(fewer) + "e" + strconv.Itoa(k-n)
			if got, e := text.Number(s); got == a || e != api.OK {
				t.Errorf("%q is %x too, or none: %v", s, got, e)
			}
		}
	}
}

// What a number's text is does not hang on what was asked before, and the same is read again.
func TestNumbersAreTheSameAgain(t *testing.T) {
	for range 2 {
		shows(t, bitsOf(0.3), "0.3")
		refuses(t, "0.3.")
		reads(t, "0.3", bitsOf(0.3))
	}
}
