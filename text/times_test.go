package text_test

import (
	"math"
	"math/big"
	"regexp"
	"strconv"
	"strings"
	"testing"

	"barograph/api"
	"barograph/text"
)

const maxTime int64 = 9007199254740992 // 2^53

var (
	durationForm = regexp.MustCompile(`^(?:([0-9]+)y)?(?:([0-9]+)w)?(?:([0-9]+)d)?(?:([0-9]+)h)?(?:([0-9]+)m)?(?:([0-9]+)s)?(?:([0-9]+)ms)?$`)
	timeForm     = regexp.MustCompile(`^(-?)([0-9]+)(?:\.([0-9]{1,3}))?$`)
)

// lengths are the milliseconds of y w d h m s ms.
var lengths = []int64{31536000000, 604800000, 86400000, 3600000, 60000, 1000, 1}

// durationOf is what the chapter says of ReadDuration, word for word; false: that is none.
func durationOf(s string) (int64, bool) {
	m := durationForm.FindStringSubmatch(s)
	if m == nil || s == "" || len(s) > 100 {
		return 0, false
	}
	sum := new(big.Int)
	for i, digits := range m[1:] {
		if digits != "" {
			n, _ := new(big.Int).SetString(digits, 10)
			sum.Add(sum, n.Mul(n, big.NewInt(lengths[i])))
		}
	}
	if sum.Cmp(big.NewInt(maxTime)) > 0 {
		return 0, false
	}
	return sum.Int64(), true
}

// timeOf is what the chapter says of ReadTime, word for word; false: that is none.
func timeOf(s string) (int64, bool) {
	m := timeForm.FindStringSubmatch(s)
	if m == nil || len(s) > 100 {
		return 0, false
	}
	n, _ := new(big.Int).SetString(m[2]+(m[3] + "000")[:3], 10)
	if n.Cmp(big.NewInt(maxTime)) > 0 {
		return 0, false
	}
	if m[1] == "-" {
		n.Neg(n)
	}
	return n.Int64(), true
}

// lengthOf is what the chapter says of Duration, word for word.
func lengthOf(ms int64) string {
	if ms == 0 {
		return "0s"
	}
	s := ""
	for i, name := range []string{"d", "h", "m", "s", "ms"} {
		n := int64(0)
		for size := lengths[i+2]; ms >= size; {
			whole := ms / size
			n, ms = n+whole, ms-whole*size
		}
		if n > 0 {
			s += strconv.FormatInt(n, 10) + name
		}
	}
	return s
}

// secondsOf is what the chapter says of Time, word for word.
func secondsOf(ms int64) string {
	if ms < 0 {
		return "-" + secondsOf(-ms)
	}
	whole, rest := ms/1000, ms%1000
	s := strconv.FormatInt(whole, 10)
	if rest == 0 {
		return s
	}
	s += "." + string([]byte{byte('0' + rest/100), byte('0' + rest/10%10), byte('0' + rest%10)})
	for s[len(s)-1] == '0' {
		s = s[:len(s)-1]
	}
	return s
}

// reader is ReadDuration or ReadTime.
type reader struct {
	name string
	call func(string) (int64, api.Errno)
	want func(string) (int64, bool)
}

var (
	readDuration = reader{"ReadDuration", text.ReadDuration, durationOf}
	readTime     = reader{"ReadTime", text.ReadTime, timeOf}
)

func (r reader) reads(t *testing.T, s string, want int64) {
	t.Helper()
	if got, e := r.call(s); got != want || e != api.OK {
		t.Errorf("%s(%q) = %d, %v, want %d", r.name, s, got, e, want)
	}
}

func (r reader) refuses(t *testing.T, s string) {
	t.Helper()
	if got, e := r.call(s); got != 0 || e != api.ErrTextTime {
		t.Errorf("%s(%q) = %d, %v, want 0 and errno 41", r.name, s, got, e)
	}
}

// asTheChapter holds any text against what the chapter says of it.
func (r reader) asTheChapter(t *testing.T, s string) {
	t.Helper()
	if want, ok := r.want(s); ok {
		r.reads(t, s, want)
	} else {
		r.refuses(t, s)
	}
}

// grow holds all texts of these letters against it.
func (r reader) grow(t *testing.T, s, letters string, left int) {
	r.asTheChapter(t, s)
	if left == 0 || t.Failed() {
		return
	}
	for i := range len(letters) {
		r.grow(t, s+letters[i:i+1], letters, left-1)
	}
}

// change holds a text that is changed at one place, by any byte, against it.
func (r reader) change(t *testing.T, s string) {
	for at := range len(s) + 1 {
		for c := range 256 {
			r.asTheChapter(t, s[:at]+string([]byte{byte(c)})+s[at:])
			if at < len(s) {
				r.asTheChapter(t, s[:at]+string([]byte{byte(c)})+s[at+1:])
			}
		}
		if at < len(s) {
			r.asTheChapter(t, s[:at]+s[at+1:])
		}
		r.asTheChapter(t, s[:at])
	}
}

// lasts asks for the text of a duration, and for it back.
func lasts(t *testing.T, ms int64, want string) {
	t.Helper()
	got, e := text.Duration(ms)
	if got != want || e != api.OK {
		t.Errorf("Duration(%d) = %q, %v, want %q", ms, got, e, want)
	}
	readDuration.reads(t, want, ms)
}

// tells asks for the text of a time, and for it back.
func tells(t *testing.T, ms int64, want string) {
	t.Helper()
	got, e := text.Time(ms)
	if got != want || e != api.OK {
		t.Errorf("Time(%d) = %q, %v, want %q", ms, got, e, want)
	}
	readTime.reads(t, want, ms)
}

// moments are milliseconds from 0 on at which something changes, and some without a pattern.
func moments() []int64 {
	all := []int64{0, 1, 2, 9, 10, 11, 99, 100, 101, 110, 120, 123, 500, 900, 990, maxTime - 1001, maxTime - 1000, maxTime - 993, maxTime - 992, maxTime - 2, maxTime - 1, maxTime, 1 << 31, 1<<31 - 1, 1 << 32, 1<<32 - 1}
	for _, size := range lengths {
		for _, n := range []int64{1, 2, 3, 5, 9, 10, 11, 23, 24, 25, 59, 60, 61, 99, 100, 101, 364, 365, 366, 999, 1000, 1001, 10000} {
			for by := int64(-2); by <= 2; by++ {
				if ms := n*size + by; ms >= 0 && ms <= maxTime {
					all = append(all, ms)
				}
			}
		}
	}
	d := dice(37)
	for range 20000 {
		all = append(all, int64(d.number()>>1)%(maxTime+1), int64(d.number()>>1)%(maxTime+1)>>d.below(53))
	}
	return all
}

func TestExamplesOfTimes(t *testing.T) {
	lasts(t, 90061001, "1d1h1m1s1ms")
	readDuration.reads(t, "1h30m", 5400000)
	readDuration.reads(t, "1y", 31536000000)
	for _, s := range []string{"1m1h", "5", ""} {
		readDuration.refuses(t, s)
	}
	tells(t, 1500, "1.5")
	tells(t, -1, "-0.001")
	readTime.reads(t, "1.23", 1230)
	for _, s := range []string{"1.", ".5", "1.2345"} {
		readTime.refuses(t, s)
	}
}

func TestDurationOfEachUnit(t *testing.T) {
	for _, x := range []struct {
		ms   int64
		want string
	}{
		{0, "0s"},
		{1, "1ms"},
		{999, "999ms"},
		{1000, "1s"},
		{1001, "1s1ms"},
		{59999, "59s999ms"},
		{60000, "1m"},
		{60001, "1m1ms"},
		{3599999, "59m59s999ms"},
		{3600000, "1h"},
		{3601000, "1h1s"},
		{86399999, "23h59m59s999ms"},
		{86400000, "1d"},
		{86400001, "1d1ms"},
		{604799999, "6d23h59m59s999ms"},
		{604800000, "7d"},
		{31535999999, "364d23h59m59s999ms"},
		{31536000000, "365d"},
		{366 * 86400000, "366d"},
		{10 * 86400000, "10d"},
		{100*86400000 + 20*3600000 + 30*60000 + 40*1000 + 500, "100d20h30m40s500ms"},
		{maxTime - 1, "104249991d8h59m991ms"},
		{maxTime, "104249991d8h59m992ms"},
	} {
		lasts(t, x.ms, x.want)
	}
	for _, ms := range moments() {
		lasts(t, ms, lengthOf(ms))
	}
}

func TestDurationOutOfBounds(t *testing.T) {
	for _, ms := range []int64{-1, -2, -1000, -86400000, -maxTime, -maxTime - 1, math.MinInt64, math.MinInt64 + 1, maxTime + 1, maxTime + 2, 1 << 54, 1 << 62, math.MaxInt64, 1 << 60} {
		if s, e := text.Duration(ms); s != "" || e != api.ErrTextTime {
			t.Errorf("Duration(%d) = %q, %v", ms, s, e)
		}
	}
}

func TestReadDurationOfEachForm(t *testing.T) {
	for i, name := range []string{"y", "w", "d", "h", "m", "s", "ms"} {
		for _, n := range []int64{0, 1, 7, 10, 123} {
			readDuration.reads(t, strconv.FormatInt(n, 10)+name, n*lengths[i])
			readDuration.reads(t, "00"+strconv.FormatInt(n, 10)+name, n*lengths[i])
		}
		most := maxTime / lengths[i]
		readDuration.reads(t, strconv.FormatInt(most, 10)+name, most*lengths[i])
		readDuration.refuses(t, strconv.FormatInt(most+1, 10)+name)
		readDuration.refuses(t, name)
		readDuration.refuses(t, "-1"+name)
		readDuration.refuses(t, "+1"+name)
		readDuration.refuses(t, "1.5"+name)
		readDuration.refuses(t, "1 "+name)
		readDuration.refuses(t, "1"+strings.ToUpper(name))
		readDuration.refuses(t, "1"+name+name)
	}
	readDuration.reads(t, "1y2w3d4h5m6s7ms", lengths[0]+2*lengths[1]+3*lengths[2]+4*lengths[3]+5*lengths[4]+6*lengths[5]+7)
	readDuration.reads(t, "0y0w0d0h0m0s0ms", 0)
	readDuration.reads(t, "36h", 36*3600000)
	readDuration.reads(t, "1m90s1500ms", 60000+90000+1500)
	readDuration.reads(t, "1m1ms", 60001)
	readDuration.reads(t, "1m1s", 61000)
	readDuration.reads(t, "1s1ms", 1001)
	for _, s := range []string{" ", "s", "ms", "1", "12", "1x", "1mm", "1sm", "1mms", "1ss", "1msec", "1min", "1us", "1ns", "1M", "s1", "1s ", " 1s", "1s 1ms", "1s,1ms", "1h5", "1h5m3", "1s\x00", "１s", "1µs", "0", "1\xff", "1s1", "1e3s", "0x1s", "1_0s", "inf"} {
		readDuration.refuses(t, s)
	}
}

// Any two units: the first has to be the greater one.
func TestReadDurationWantsFallingUnits(t *testing.T) {
	names := []string{"y", "w", "d", "h", "m", "s", "ms"}
	for i, first := range names {
		for j, second := range names {
			s := "2" + first + "3" + second
			if i < j {
				readDuration.reads(t, s, 2*lengths[i]+3*lengths[j])
			} else {
				readDuration.refuses(t, s)
			}
			for _, third := range names {
				readDuration.asTheChapter(t, s+"4"+third)
				readDuration.asTheChapter(t, "0"+third+s)
			}
		}
	}
}

func TestReadDurationBeyondItsBounds(t *testing.T) {
	for _, x := range []struct {
		s  string
		ms int64
	}{
		{"9007199254740992ms", maxTime},
		{"9007199254740991ms", maxTime - 1},
		{"9007199254740s992ms", maxTime},
		{"9007199254739s1992ms", maxTime},
		{"285616y21w4d8h59m992ms", maxTime},
		{"14892855w6d8h59m992ms", maxTime},
		{"104249991d8h59m992ms", maxTime},
		{"2501999792h59m992ms", maxTime},
		{"150119987579m992ms", maxTime},
		{"0y9007199254740992ms", maxTime},
	} {
		readDuration.reads(t, x.s, x.ms)
	}
	for _, s := range []string{
		"9007199254740993ms", "9007199254740994ms", "9007199254740s993ms", "9007199254741s", "1s9007199254739993ms", "9007199254740s9007199254740992ms", "1y9007199254740992ms", "9007199254740992ms1y",
		"9223372036854775807ms", "9223372036854775808ms", "18446744073709551615ms", "18446744073709551616ms", "18446744073709551617ms", "36893488147419103233ms", "99999999999999999999999999999999ms",
		"9223372036854775807s9223372036854775807ms", "9223372036854775807s9223372036854776808ms", "4611686018427387904h4611686018427387904m",
		// These products are a multiple of 2^64, and 1 more.
		"2305843009213693952s", "2305843009213693952s1ms", "18014398509481984y", "18014398509481984y1ms", "576460752303423488m", "1152921504606846976m", "288230376151711744h", "72057594037927936d", "36028797018963968w", "144115188075855872w",
		"285616y21w4d8h59m993ms", "14892855w6d8h59m993ms", "104249991d8h59m993ms", "2501999792h59m993ms", "150119987579m993ms",
		"285616y22w", "14892855w7d", "104249991d9h", "2501999792h60m", "150119987579m1s", "285617y", "14892856w", "104249992d", "2501999793h", "150119987580m",
	} {
		readDuration.refuses(t, s)
	}
	d := dice(41)
	for range 20000 {
		s := ""
		for i, name := range []string{"y", "w", "d", "h", "m", "s", "ms"} {
			if d.below(3) == 0 {
				most := uint64(maxTime / lengths[i])
				s += strconv.FormatUint(d.number()%most*uint64(1+d.below(3))/uint64(1+d.below(40)), 10) + name
			}
		}
		readDuration.asTheChapter(t, s)
	}
}

func TestReadDurationOfAHundredBytes(t *testing.T) {
	noughts := strings.Repeat("0", 200)
	for _, tail := range []string{"7s", "7ms", "1h5m", "9007199254740992ms"} {
		want, _ := durationOf(tail)
		readDuration.reads(t, noughts[:99-len(tail)]+tail, want)
		readDuration.reads(t, noughts[:100-len(tail)]+tail, want)
		readDuration.refuses(t, noughts[:101-len(tail)]+tail)
		readDuration.refuses(t, noughts[:102-len(tail)]+tail)
	}
	readDuration.reads(t, "1h"+noughts[:95]+"5ms", 3600005)
	readDuration.refuses(t, "1h"+noughts[:96]+"5ms")
	readDuration.refuses(t, strings.Repeat("9", 98)+"ms")
	readDuration.refuses(t, strings.Repeat("1s", 1<<18))
}

func TestReadDurationOfAllShortTexts(t *testing.T) {
	readDuration.grow(t, "", "019smhdwy-. ", 4)
	readDuration.grow(t, "1h", "05smh", 5)
	readDuration.grow(t, "2m1", "0ms", 6)
	for _, s := range []string{"1ms", "12s", "1h30m", "1y2w3d4h5m6s7ms", "1m1ms"} {
		readDuration.change(t, s)
	}
}

func TestTimeAtItsEdges(t *testing.T) {
	for _, x := range []struct {
		ms   int64
		want string
	}{
		{0, "0"},
		{1, "0.001"},
		{-1, "-0.001"},
		{10, "0.01"},
		{100, "0.1"},
		{110, "0.11"},
		{101, "0.101"},
		{999, "0.999"},
		{-999, "-0.999"},
		{1000, "1"},
		{-1000, "-1"},
		{1001, "1.001"},
		{1010, "1.01"},
		{1230, "1.23"},
		{1500, "1.5"},
		{-1500, "-1.5"},
		{10000, "10"},
		{100000, "100"},
		{1000000, "1000"},
		{60000, "60"},
		{9007199254740991, "9007199254740.991"},
		{9007199254740992, "9007199254740.992"},
		{-9007199254740991, "-9007199254740.991"},
		{-9007199254740992, "-9007199254740.992"},
		{9007199254740000, "9007199254740"},
	} {
		tells(t, x.ms, x.want)
	}
	for _, ms := range moments() {
		tells(t, ms, secondsOf(ms))
		tells(t, -ms, secondsOf(-ms))
	}
}

func TestTimeOutOfBounds(t *testing.T) {
	for _, ms := range []int64{maxTime + 1, maxTime + 2, -maxTime - 1, -maxTime - 2, 1 << 54, 1 << 62, math.MaxInt64, math.MaxInt64 - 1, math.MinInt64, math.MinInt64 + 1, -1 << 54} {
		if s, e := text.Time(ms); s != "" || e != api.ErrTextTime {
			t.Errorf("Time(%d) = %q, %v", ms, s, e)
		}
	}
}

func TestReadTimeOfEachForm(t *testing.T) {
	for _, x := range []struct {
		s  string
		ms int64
	}{
		{"0", 0}, {"-0", 0}, {"0.0", 0}, {"-0.000", 0}, {"00", 0}, {"7", 7000}, {"007", 7000}, {"-7", -7000}, {"7.0", 7000}, {"7.00", 7000}, {"7.000", 7000},
		{"1.2", 1200}, {"1.20", 1200}, {"1.200", 1200}, {"1.02", 1020}, {"1.002", 1002}, {"1.23", 1230}, {"1.234", 1234}, {"-1.234", -1234}, {"0.001", 1}, {"-0.001", -1}, {"-0.1", -100}, {"0.009", 9},
		{"9007199254740.992", maxTime}, {"-9007199254740.992", -maxTime}, {"9007199254740.99", maxTime - 2}, {"9007199254740.991", maxTime - 1}, {"9007199254740.9", maxTime - 92}, {"0009007199254740.992", maxTime},
	} {
		readTime.reads(t, x.s, x.ms)
	}
	for _, s := range []string{
		"", "-", ".", "-.", "1.", "-1.", ".5", "-.5", "1.2345", "1.0000", "0.0000", "1.00000000000000000000000000000", "1..2", "1.2.3", "1.-2", "1.+2", "1. 2", "1.2 ", " 1", "1 ", "+1", "+0", "--1", "-+1", "+-1", "1-", "- 1",
		"1e3", "1E3", "0x1", "1_0", "1s", "1ms", "1,5", "inf", "nan", "NaN", "１", "1\x00", "\x001", "1.x", "1.2x", "x", "−1", "1.\xff",
		"9007199254740.993", "-9007199254740.993", "9007199254740.994", "9007199254741", "-9007199254741", "9007199254741.0", "9007199254740992", "9223372036854775.807", "9223372036854775.808", "18446744073709551.615", "18446744073709551.616", "18446744073709551.617", "-18446744073709551.617",
		"9223372036854775807", "9223372036854775808", "-9223372036854775808", "18446744073709551616", "18446744073709551617", "2305843009213693952", "2305843009213693952.001", "-2305843009213693952.001", "99999999999999999999999999999999999",
	} {
		readTime.refuses(t, s)
	}
}

func TestReadTimeOfAHundredBytes(t *testing.T) {
	noughts := strings.Repeat("0", 200)
	for _, x := range []struct {
		head, tail string
		ms         int64
	}{{"", "7", 7000}, {"-", "7", -7000}, {"", "1.5", 1500}, {"-", "1.234", -1234}, {"-", "9007199254740.992", -maxTime}} {
		size := 100 - len(x.head) - len(x.tail)
		readTime.reads(t, x.head+noughts[:size-1]+x.tail, x.ms)
		readTime.reads(t, x.head+noughts[:size]+x.tail, x.ms)
		readTime.refuses(t, x.head+noughts[:size+1]+x.tail)
		readTime.refuses(t, x.head+noughts[:size+2]+x.tail)
	}
	readTime.refuses(t, strings.Repeat("9", 100))
	readTime.refuses(t, strings.Repeat("0", 1<<20))
}

func TestReadTimeOfAllShortTexts(t *testing.T) {
	readTime.grow(t, "", "0159.-+e ", 5)
	readTime.grow(t, "-1.", "05.-", 5)
	for _, s := range []string{"0", "12.5", "-1.234", "-0.001"} {
		readTime.change(t, s)
	}
	d := dice(43)
	for range 20000 {
		whole := strconv.FormatUint(d.number()>>d.below(64), 10)
		fraction := strconv.Itoa(d.below(2000))
		readTime.asTheChapter(t, whole+"."+fraction)
		readTime.asTheChapter(t, "-"+whole)
	}
}
