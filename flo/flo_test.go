package flo_test

import (
	"math"
	"math/big"
	"slices"
	"strconv"
	"strings"
	"testing"

	"tansy/api"
	"tansy/flo"
)

const theNaN = 0x7FF8000000000000

var (
	nan      = math.Float64frombits(theNaN)
	inf      = math.Inf(1)
	negZero  = math.Copysign(0, -1)
	smallest = math.SmallestNonzeroFloat64
	greatest = math.MaxFloat64
	least    = math.Float64frombits(1 << 52) // of the normal ones
	below    = math.Float64frombits(1<<52 - 1)
)

// ordered holds the edges, each once, in the order that P1.1 asks for.
var ordered = []float64{
	nan, -inf, -greatest, -1.5, -1, -least, -below, -smallest, negZero,
	0, smallest, below, least, 0.5, math.Nextafter(1, 0), 1, math.Nextafter(1, 2), 2, greatest, inf,
}

// nanBits are NaNs of all kinds: quiet and signalling, of both signs.
var nanBits = []uint64{
	theNaN, theNaN + 1, 0x7FF0000000000001, 0x7FF7FFFFFFFFFFFF, 0x7FFFFFFFFFFFFFFF,
	0xFFF8000000000000, 0xFFF0000000000001, 0xFFFFFFFFFFFFFFFF,
}

// someBits has all signs and exponents, each with fractions of several lengths.
func someBits() (l []uint64) {
	fractions := []uint64{0, 1, 2, 3, 1 << 20, 5 << 30, 1 << 51, 0xA5A5A5A5A5A5A, 1<<52 - 2, 1<<52 - 1}
	for head := range uint64(1 << 12) {
		for _, f := range fractions {
			l = append(l, head<<52|f)
		}
	}
	return l
}

// isBits compares to the bit, for NaNs and zeros too.
func isBits(t *testing.T, what string, got float64, want uint64) {
	t.Helper()
	if b := math.Float64bits(got); b != want {
		t.Errorf("%s: got %016X, want %016X", what, b, want)
	}
}

// isNumber compares a number and an error.
func isNumber(t *testing.T, what string, got float64, e api.Errno, want float64, wantErr api.Errno) {
	t.Helper()
	isBits(t, what, got, math.Float64bits(want))
	if e != wantErr {
		t.Errorf("%s: got error %d, want %d", what, e, wantErr)
	}
}

func TestBits(t *testing.T) { // P1.1
	for _, c := range []struct {
		x    float64
		want uint64
	}{
		{0, 0}, {negZero, 1 << 63}, {1, 0x3FF0000000000000}, {-2, 0xC000000000000000}, {0.75, 0x3FE8000000000000},
		{smallest, 1}, {-smallest, 1<<63 | 1}, {below, 1<<52 - 1}, {least, 1 << 52},
		{greatest, 0x7FEFFFFFFFFFFFFF}, {inf, 0x7FF0000000000000}, {-inf, 0xFFF0000000000000},
		{nan, theNaN}, {math.NaN(), theNaN}, {-nan, theNaN},
	} {
		if got := flo.Bits(c.x); got != c.want {
			t.Errorf("Bits(%v): got %016X, want %016X", c.x, got, c.want)
		}
		isBits(t, "Of", flo.Of(c.want), c.want)
	}
	for _, b := range nanBits {
		if got := flo.Bits(math.Float64frombits(b)); got != theNaN {
			t.Errorf("Bits of the NaN %016X: got %016X", b, got)
		}
		isBits(t, "Of a NaN", flo.Of(b), theNaN)
	}
}

func TestBitsAndOfTurnEachOtherRound(t *testing.T) { // P1.1
	for _, b := range someBits() {
		want := b
		if b&^(1<<63) > 0x7FF0000000000000 {
			want = theNaN
		}
		isBits(t, "Of", flo.Of(b), want)
		if got := flo.Bits(flo.Of(b)); got != want {
			t.Errorf("Bits(Of(%016X)): got %016X, want %016X", b, got, want)
		}
	}
}

func TestSameAndLess(t *testing.T) { // P1.1
	for i, a := range ordered {
		for k, b := range ordered {
			if got := flo.Less(a, b); got != (i < k) {
				t.Errorf("Less(%v, %v): got %v", a, b, got)
			}
			if got := flo.Same(a, b); got != (i == k) {
				t.Errorf("Same(%v, %v): got %v", a, b, got)
			}
		}
	}
}

func TestAllNaNsAreOne(t *testing.T) { // P1.1
	for _, b := range nanBits {
		x := math.Float64frombits(b)
		for _, c := range nanBits {
			y := math.Float64frombits(c)
			if !flo.Same(x, y) || flo.Less(x, y) {
				t.Errorf("the NaNs %016X and %016X are told apart", b, c)
			}
		}
		for _, y := range ordered[1:] {
			if flo.Same(x, y) || flo.Same(y, x) || !flo.Less(x, y) || flo.Less(y, x) {
				t.Errorf("the NaN %016X is not ahead of %v", b, y)
			}
		}
	}
}

func TestLeastAndMost(t *testing.T) { // P1.2
	for _, c := range []struct {
		l           []float64
		least, most float64
	}{
		{[]float64{7}, 7, 7},
		{[]float64{3, 1, 2}, 1, 3},
		{[]float64{1, 5, 5, 1}, 1, 5},
		{[]float64{-1, -3, -2}, -3, -1},
		{[]float64{0, negZero}, negZero, 0},
		{[]float64{negZero, 0, negZero}, negZero, 0},
		{[]float64{negZero}, negZero, negZero},
		{[]float64{smallest, 0}, 0, smallest},
		{[]float64{negZero, -smallest}, -smallest, negZero},
		{[]float64{1, inf, -inf}, -inf, inf},
		{[]float64{1, nan, -inf}, nan, 1},
		{[]float64{-inf, nan}, nan, -inf},
		{[]float64{math.Float64frombits(0xFFFFFFFFFFFFFFFF)}, nan, nan},
		{[]float64{2, math.Float64frombits(0x7FF0000000000001)}, nan, 2},
		{ordered, nan, inf},
	} {
		x, e := flo.Least(c.l...)
		isNumber(t, "Least", x, e, c.least, api.OK)
		x, e = flo.Most(c.l...)
		isNumber(t, "Most", x, e, c.most, api.OK)
	}
}

func TestLeastAndMostOfNone(t *testing.T) { // P1.2
	for _, f := range []func(...float64) (float64, api.Errno){flo.Least, flo.Most} {
		x, e := f()
		isNumber(t, "of none", x, e, 0, api.ErrNone)
		x, e = f(nil...)
		isNumber(t, "of nil", x, e, 0, api.ErrNone)
		x, e = f([]float64{}...)
		isNumber(t, "of an empty list", x, e, 0, api.ErrNone)
	}
}

func TestLeastAndMostLeaveTheirList(t *testing.T) { // P1.2, and rule 3
	room := []float64{3, negZero, 1, 0, 2, 8, 9}
	before := slices.Clone(room)
	flo.Least(room[:5]...)
	flo.Most(room[:5]...)
	for i, x := range room {
		isBits(t, "element "+strconv.Itoa(i), x, math.Float64bits(before[i]))
	}
}

func TestUnit(t *testing.T) { // P1.2
	for _, x := range []float64{0, smallest, below, least, 0.5, math.Nextafter(1, 0), 1} {
		got, e := flo.Unit(x)
		isNumber(t, "Unit", got, e, x, api.OK)
	}
	got, e := flo.Unit(negZero)
	isNumber(t, "Unit(-0)", got, e, 0, api.OK)
	for _, x := range []float64{-smallest, -below, -0.5, -1, -inf, math.Nextafter(1, 2), 2, greatest, inf} {
		got, e := flo.Unit(x)
		isNumber(t, "Unit of no chance", got, e, 0, api.ErrValue)
	}
	for _, b := range nanBits {
		got, e := flo.Unit(math.Float64frombits(b))
		isNumber(t, "Unit of a NaN", got, e, 0, api.ErrValue)
	}
}

func TestPrice(t *testing.T) { // P1.2
	for _, x := range []float64{0, smallest, below, least, 0.5, 1, math.Nextafter(1, 2), 1e300, greatest, inf} {
		got, e := flo.Price(x)
		isNumber(t, "Price", got, e, x, api.OK)
	}
	got, e := flo.Price(negZero)
	isNumber(t, "Price(-0)", got, e, 0, api.OK)
	for _, x := range []float64{-smallest, -below, -1, -greatest, -inf} {
		got, e := flo.Price(x)
		isNumber(t, "Price of no price", got, e, 0, api.ErrValue)
	}
	for _, b := range nanBits {
		got, e := flo.Price(math.Float64frombits(b))
		isNumber(t, "Price of a NaN", got, e, 0, api.ErrValue)
	}
}

func TestText(t *testing.T) { // P1.3
	for _, c := range []struct {
		x    float64
		text string
	}{
		{nan, "nan"}, {math.NaN(), "nan"}, {-nan, "nan"}, {inf, "inf"}, {-inf, "-inf"},
		{0, "0b0"}, {negZero, "-0b0"},
		{1, "1b0"}, {-1, "-1b0"}, {0.75, "3b-2"}, {-0.75, "-3b-2"}, {10, "5b1"}, {1024, "1b10"}, {0.5, "1b-1"},
		{0.1, "3602879701896397b-55"}, {1 << 53, "1b53"}, {1<<53 - 1, "9007199254740991b0"},
		{smallest, "1b-1074"}, {-smallest, "-1b-1074"}, {2 * smallest, "1b-1073"}, {3 * smallest, "3b-1074"},
		{below, "4503599627370495b-1074"}, {least, "1b-1022"}, {math.Nextafter(least, 1), "4503599627370497b-1074"},
		{greatest, "9007199254740991b971"}, {-greatest, "-9007199254740991b971"}, {0x1p1023, "1b1023"},
	} {
		if got := flo.Text(c.x); got != c.text {
			t.Errorf("Text(%v): got %s, want %s", c.x, got, c.text)
		}
		want := c.x
		if math.IsNaN(want) {
			want = nan
		}
		x, e := flo.Parse(c.text)
		isNumber(t, "Parse of "+c.text, x, e, want, api.OK)
	}
}

// asText works the text of a finite number out in another way: by strconv's form with a binary exponent, halved while it can be.
func asText(x float64) string {
	digits, exponent, _ := strings.Cut(strconv.FormatFloat(math.Abs(x), 'b', -1, 64), "p")
	m, _ := new(big.Int).SetString(digits, 10)
	e, _ := strconv.Atoi(exponent)
	for m.Sign() > 0 && m.Bit(0) == 0 {
		m.Rsh(m, 1)
		e++
	}
	if m.Sign() == 0 {
		e = 0
	}
	sign := ""
	if math.Signbit(x) {
		sign = "-"
	}
	return sign + m.String() + "b" + strconv.Itoa(e)
}

func TestTextOfMany(t *testing.T) { // P1.3
	for _, b := range someBits() {
		x := math.Float64frombits(b)
		if math.IsNaN(x) || math.IsInf(x, 0) {
			continue
		}
		if got, want := flo.Text(x), asText(x); got != want {
			t.Fatalf("Text(%v): got %s, want %s", x, got, want)
		}
	}
}

func TestParseOfNoText(t *testing.T) { // P1.3
	for _, s := range []string{
		"", "-", "b", "-b", "0", "1", "-1", "1b", "b1", "b0", "-b0", "1b-", "1bb0", "1b0b", "1b0b0", "b1b0",
		"NaN", "Nan", "-nan", "+nan", "nan ", "nan0", "Inf", "+inf", "--inf", "infinity", "inf ", " inf", "-Inf",
		"2b0", "-2b0", "10b0", "4b-2", "2b-1074", // even
		"0b1", "0b-1", "-0b1", "00b0", "0b00", "0b-0", "--0b0", "-00b0", // zeros
		"01b0", "001b0", "-01b0", "1b00", "1b01", "1b-01", "1b-0", "1b+0", "1b+1", "+1b0", "--1b0", "1b--1", // as no Text writes it
		"1b1024", "3b1023", "-1b1024", "1b-1075", "3b-1075", "1b-1076", "9007199254740991b972", // out of reach
		"9007199254740993b0", "9007199254740993b-60", "4503599627370497b-1075", "18446744073709551615b0", // to be rounded
		"18446744073709551617b0", "99999999999999999999b0", "1b99999999999999999999", "1b-99999999999999999999",
		"1b9223372036854775807", "1b-9223372036854775808", "1b32768", "1b65536", "1b4294967296", "1b18446744073709551616",
		"1.5b0", "1b0.5", "1e0", "1p0", "0x1b0", "1B0", "1_1b0", "1b1_0", "1,1b0", "ab0", "1ba",
		" 1b0", "1b0 ", "1 b0", "1b 0", "\t1b0", "1b0\n", "1b0\x00", "\x001b0", "\xff", "1b\xff", "١b0", "−1b0", "1b−1",
		strings.Repeat("0", 100) + "1b0", "1b" + strings.Repeat("0", 100), strings.Repeat("9", 1000) + "b0", "1b-" + strings.Repeat("9", 1000),
	} {
		x, e := flo.Parse(s)
		isNumber(t, "Parse of "+strconv.Quote(s), x, e, 0, api.ErrValue)
	}
}

func TestParseReadsNoSecondTextOfANumber(t *testing.T) { // P1.3
	signs := []string{"", "-", "+"}
	for _, sign := range signs {
		for _, m := range []string{"", "0", "1", "2", "3", "6", "03", "9007199254740991", "9007199254740992"} {
			for _, e := range []string{"", "0", "-0", "+1", "1", "-1", "-1074", "-1075", "971", "972", "1023", "1024"} {
				s := sign + m + "b" + e
				x, err := flo.Parse(s)
				if err == api.OK && flo.Text(x) != s || err != api.OK && err != api.ErrValue {
					t.Errorf("Parse of %q: %v, %d", s, x, err)
				}
			}
		}
	}
}

func TestParseOfTextIsSame(t *testing.T) { // P1.4
	for _, b := range someBits() {
		x := math.Float64frombits(b)
		got, e := flo.Parse(flo.Text(x))
		if e != api.OK || !flo.Same(got, x) {
			t.Fatalf("Parse(%s): got %v, %d, want %v", flo.Text(x), got, e, x)
		}
		isBits(t, "Parse", got, flo.Bits(x))
	}
}

func TestLessIsAStrictOrder(t *testing.T) { // P1.4
	var l []float64
	for i, b := range someBits() {
		if i%53 == 0 {
			l = append(l, math.Float64frombits(b))
		}
	}
	l = append(l, ordered...)
	for _, a := range l {
		for _, b := range l {
			less, more, same := flo.Less(a, b), flo.Less(b, a), flo.Same(a, b)
			if less && more || same == (less || more) {
				t.Fatalf("%v and %v: less %v, more %v, same %v", a, b, less, more, same)
			}
			if a < b && !less {
				t.Fatalf("%v is below %v, and not Less", a, b)
			}
		}
	}
}

func TestLessGoesOnFromOneToTheNext(t *testing.T) { // P1.4: with each pair decided, a before b before c means a before c
	for _, a := range ordered {
		for _, b := range ordered {
			for _, c := range ordered {
				if flo.Less(a, b) && flo.Less(b, c) && !flo.Less(a, c) {
					t.Fatalf("%v, %v, %v", a, b, c)
				}
			}
		}
	}
}
