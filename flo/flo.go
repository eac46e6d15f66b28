// Package flo is doubles in order: see DOC.md, chapter 1.
package flo

import (
	"math"
	"math/bits"
	"strconv"
	"strings"

	"tansy/api"
)

// nanBits is the NaN: math.NaN() has other bits.
const nanBits = 0x7FF8000000000000

// The parts of a double's bits.
const (
	signBit  = 1 << 63
	fracLen  = 52
	fracMask = 1<<fracLen - 1
	expMask  = 1<<11 - 1
	expBias  = 1075 // of the mantissa taken as a whole number
)

// Bits is a number's bits; all NaNs have the same.
func Bits(x float64) uint64 {
	if math.IsNaN(x) {
		return nanBits
	}
	return math.Float64bits(x)
}

// Of is the number with these bits; of a NaN's, the NaN.
func Of(b uint64) float64 {
	return one(math.Float64frombits(b))
}

// one is x, with the NaN in place of any other NaN: no answer tells NaNs apart.
func one(x float64) float64 {
	return math.Float64frombits(Bits(x))
}

// Less is the order: the NaN, then -Inf up to -0, then 0 up to +Inf.
func Less(a, b float64) bool { return place(a) < place(b) }

// place turns the order of doubles into that of whole numbers: Go's < neither places NaN nor tells the zeros apart.
func place(x float64) uint64 {
	b := Bits(x)
	switch {
	case b == nanBits:
		return 0
	case b&signBit != 0:
		return ^b // a greater one is further down; -Inf still is above 0, the NaN's place
	}
	return b | signBit
}

// Same tells whether two have the same bits.
func Same(a, b float64) bool { return Bits(a) == Bits(b) }

// Least is the first in the order.
func Least(l ...float64) (float64, api.Errno) {
	return foremost(l, Less)
}

// Most is the last in the order.
func Most(l ...float64) (float64, api.Errno) {
	return foremost(l, func(a, b float64) bool { return Less(b, a) })
}

// foremost is the one that no other is ahead of.
func foremost(l []float64, ahead func(a, b float64) bool) (float64, api.Errno) {
	if len(l) == 0 {
		return 0, api.ErrNone
	}
	best := l[0]
	for _, x := range l[1:] {
		if ahead(x, best) {
			best = x
		}
	}
	return one(best), api.OK
}

// Unit is a chance: from 0 to 1.
func Unit(x float64) (float64, api.Errno) { return upTo(1, x) }

// Price is a cost: from 0 to +Inf.
func Price(x float64) (float64, api.Errno) { return upTo(math.Inf(1), x) }

// upTo is x, if it is from 0 to top.
func upTo(top, x float64) (float64, api.Errno) {
	if x >= 0 && x <= top { // no NaN is
		return math.Abs(x), api.OK // -0 is 0
	}
	return 0, api.ErrValue
}

// Text writes a number without rounding: its mantissa, `b`, its exponent.
func Text(x float64) string {
	switch {
	case math.IsNaN(x):
		return "nan"
	case math.IsInf(x, 1):
		return "inf"
	case math.IsInf(x, -1):
		return "-inf"
	}
	sign := ""
	if math.Signbit(x) {
		sign = "-"
	}
	m, e := split(x)
	return sign + strconv.FormatUint(m, 10) + "b" + strconv.Itoa(e)
}

// split is the odd m and the e with which a finite x is m 2^e, but for its sign; 0 and 0 of the zeros.
func split(x float64) (m uint64, e int) {
	b := math.Float64bits(x)
	m = b & fracMask
	e = int(b >> fracLen & expMask)
	if e == 0 {
		e = 1 // a subnormal has no hidden bit, and the exponent of the least normal ones
	} else {
		m |= 1 << fracLen
	}
	if m == 0 {
		return 0, 0
	}
	zeros := bits.TrailingZeros64(m)
	return m >> zeros, e - expBias + zeros
}

// Parse reads what Text writes, and nothing else.
func Parse(s string) (float64, api.Errno) {
	x, ok := guess(s)
	// Text decides: a number has one text only, whatever else could be read as that number.
	if !ok || Text(x) != s {
		return 0, api.ErrValue
	}
	return x, api.OK
}

// guess is the only number whose Text s may be.
func guess(s string) (float64, bool) {
	switch s {
	case "nan":
		return Of(nanBits), true
	case "inf":
		return math.Inf(1), true
	case "-inf":
		return math.Inf(-1), true
	}
	digits, negative := strings.CutPrefix(s, "-")
	mantissa, exponent, _ := strings.Cut(digits, "b")
	m, mErr := strconv.ParseUint(mantissa, 10, 64)
	e, eErr := strconv.ParseInt(exponent, 10, 16)
	if mErr != nil || eErr != nil {
		return 0, false
	}
	x := math.Ldexp(float64(m), int(e)) // rounded only where s is no Text
	if negative {
		x = -x
	}
	return x, true
}
