package fop_test

import (
	"math"
	"math/big"
	"slices"
	"testing"

	"tansy/api"
	"tansy/flo"
	"tansy/fop"
)

var (
	nan      = math.NaN()
	inf      = math.Inf(1)
	negZero  = math.Copysign(0, -1)
	smallest = math.SmallestNonzeroFloat64
	greatest = math.MaxFloat64
	least    = math.Float64frombits(1 << 52) // of the normal ones
	justOne  = math.Nextafter(1, 0)
)

// chances and prices hold the edges; the others are no chance, no price.
var (
	chances  = []float64{0, negZero, smallest, 3 * smallest, least, 1e-160, 0.1, 0.25, 1.0 / 3, 0.5, 0.75, justOne, 1}
	noChance = []float64{nan, -nan, math.Float64frombits(0x7FF0000000000001), inf, -inf, -smallest, -0.5, -1, math.Nextafter(1, 2), 1.5, greatest, -greatest}
	prices   = append(slices.Clone(chances), math.Nextafter(1, 2), 2, 3, 0.3, 1e16, 1<<53-1, 1<<53, 1<<40+0.5, greatest, inf)
	noPrice  = []float64{nan, -nan, math.Float64frombits(0x7FF0000000000001), -inf, -smallest, -0.5, -1, -greatest}
)

// is compares a number, to the bit, and an error.
func is(t *testing.T, what string, got float64, e api.Errno, want float64, wantErr api.Errno) {
	t.Helper()
	if math.Float64bits(got) != math.Float64bits(want) || e != wantErr {
		t.Errorf("%s: got %v (%016X), error %d, want %v, error %d", what, got, math.Float64bits(got), e, want, wantErr)
	}
}

// rounded works out a result without an end of digits and rounds it once.
func rounded(a, b float64, op func(z, x, y *big.Float) *big.Float) float64 {
	if math.IsInf(a, 0) || math.IsInf(b, 0) {
		return inf
	}
	x, y := new(big.Float).SetFloat64(a), new(big.Float).SetFloat64(b)
	z, _ := op(new(big.Float).SetPrec(3000), x, y).Float64()
	return math.Abs(z)
}

func TestTimes(t *testing.T) { // P2.1
	for _, c := range []struct{ a, b, want float64 }{
		{0.5, 0.5, 0.25}, {1, 1, 1}, {0, 1, 0}, {0.75, 0.75, 0.5625}, {0.1, 0.1, 0.010000000000000002},
		{negZero, 1, 0}, {1, negZero, 0}, {negZero, negZero, 0}, {negZero, 0, 0},
		{smallest, 0.5, 0}, {smallest, 0.75, smallest}, {smallest, smallest, 0}, {3 * smallest, 0.5, 2 * smallest},
		{least, 0.5, math.Float64frombits(1 << 51)}, {1e-160, 1e-160, 1e-320}, {1e-170, 1e-170, 0}, {justOne, justOne, math.Float64frombits(0x3FEFFFFFFFFFFFFE)},
	} {
		x, e := fop.Times(c.a, c.b)
		is(t, "Times", x, e, c.want, api.OK)
	}
	for _, a := range chances {
		for _, b := range chances {
			x, e := fop.Times(a, b)
			is(t, "Times", x, e, rounded(a, b, (*big.Float).Mul), api.OK)
		}
	}
}

func TestTimesWrong(t *testing.T) { // P2.1
	for _, a := range noChance {
		for _, b := range slices.Concat(chances, noChance) {
			x, e := fop.Times(a, b)
			is(t, "Times of no chance", x, e, 0, api.ErrValue)
			x, e = fop.Times(b, a)
			is(t, "Times by no chance", x, e, 0, api.ErrValue)
		}
	}
}

func TestPlus(t *testing.T) { // P2.1
	for _, c := range []struct{ a, b, want float64 }{
		{1, 2, 3}, {0.1, 0.2, 0.30000000000000004}, {inf, 1, inf}, {1, inf, inf}, {inf, inf, inf}, {0, inf, inf},
		{0, 0, 0}, {negZero, negZero, 0}, {negZero, 0, 0}, {negZero, 2, 2}, {2, negZero, 2},
		{greatest, greatest, inf}, {greatest, 1, greatest}, {1 << 53, 1, 1 << 53}, {smallest, smallest, 2 * smallest},
	} {
		x, e := fop.Plus(c.a, c.b)
		is(t, "Plus", x, e, c.want, api.OK)
	}
	for _, a := range prices {
		for _, b := range prices {
			x, e := fop.Plus(a, b)
			is(t, "Plus", x, e, rounded(a, b, (*big.Float).Add), api.OK)
		}
	}
}

func TestPlusWrong(t *testing.T) { // P2.1
	for _, a := range noPrice {
		for _, b := range slices.Concat(prices, noPrice) {
			x, e := fop.Plus(a, b)
			is(t, "Plus of no price", x, e, 0, api.ErrValue)
			x, e = fop.Plus(b, a)
			is(t, "Plus by no price", x, e, 0, api.ErrValue)
		}
	}
}

func TestDot(t *testing.T) { // P2.2
	for _, c := range []struct {
		a, b []float64
		want float64
	}{
		{nil, nil, 0}, {[]float64{}, nil, 0}, {nil, []float64{}, 0},
		{[]float64{0.5}, []float64{0.5}, 0.25},
		{[]float64{0.5, 0.25}, []float64{0.5, 1}, 0.25},
		{[]float64{0.75, 0.5}, []float64{0.75, 1}, 0.5625},
		{[]float64{0.5, 0.75}, []float64{1, 0.75}, 0.5625},
		{[]float64{1, 0, 0.5}, []float64{0, 1, 0.5}, 0.25},
		{[]float64{0.125, 1, 0.5}, []float64{1, 1, 1}, 1},
		{[]float64{negZero}, []float64{1}, 0},
		{[]float64{negZero, negZero}, []float64{negZero, 0}, 0},
		{[]float64{smallest, smallest}, []float64{0.5, 0.75}, smallest},
		{[]float64{smallest}, []float64{0.5}, 0},
	} {
		x, e := fop.Dot(c.a, c.b)
		is(t, "Dot", x, e, c.want, api.OK)
	}
}

func TestDotIsMostOfTimes(t *testing.T) { // P2.2
	for shift := range chances {
		turned := slices.Concat(chances[shift:], chances[:shift])
		var products []float64
		for i, a := range chances {
			p, _ := fop.Times(a, turned[i])
			products = append(products, p)
		}
		want, _ := flo.Most(products...)
		x, e := fop.Dot(chances, turned)
		is(t, "Dot", x, e, want, api.OK)
	}
}

func TestDotWrong(t *testing.T) { // P2.2
	for _, c := range [][2][]float64{
		{{1}, nil}, {nil, {1}}, {{1, 1}, {1}}, {{1}, {1, 1}}, {{0}, {0, 0, 0}}, {{2}, nil},
	} {
		x, e := fop.Dot(c[0], c[1])
		is(t, "Dot of unlike lengths", x, e, 0, api.ErrValue)
	}
	for _, w := range noChance {
		for i := range 3 {
			l := []float64{0.5, 1, 0}
			l[i] = w
			x, e := fop.Dot(l, []float64{1, 1, 0})
			is(t, "Dot of no chance", x, e, 0, api.ErrValue)
			x, e = fop.Dot([]float64{1, 1, 0}, l)
			is(t, "Dot by no chance", x, e, 0, api.ErrValue)
		}
	}
}

func TestPath(t *testing.T) { // P2.2
	for _, c := range []struct {
		l    []float64
		want float64
	}{
		{nil, 0}, {[]float64{}, 0}, {[]float64{0}, 0}, {[]float64{negZero}, 0}, {[]float64{negZero, negZero}, 0},
		{[]float64{7}, 7}, {[]float64{1, 2, 3}, 6}, {[]float64{inf}, inf}, {[]float64{inf, 1}, inf}, {[]float64{1, inf, 2}, inf},
		{[]float64{0.1, 0.2, 0.3}, 0.6000000000000001}, {[]float64{0.3, 0.2, 0.1}, 0.6},
		{[]float64{1 << 53, 1, 1}, 1 << 53}, {[]float64{1, 1, 1 << 53}, 1<<53 + 2},
		{[]float64{greatest, greatest}, inf}, {[]float64{smallest, smallest, smallest}, 3 * smallest},
	} {
		x, e := fop.Path(c.l...)
		is(t, "Path", x, e, c.want, api.OK)
	}
	x, e := fop.Path()
	is(t, "Path of none", x, e, 0, api.OK)
}

func TestPathWrong(t *testing.T) { // P2.2
	for _, w := range noPrice {
		x, e := fop.Path(w)
		is(t, "Path of no price", x, e, 0, api.ErrValue)
		for i := range 3 {
			l := []float64{1, 2, inf}
			l[i] = w
			x, e := fop.Path(l...)
			is(t, "Path of no price", x, e, 0, api.ErrValue)
		}
	}
}

// filled is a list with one number in all its places.
func filled(n int, x float64) []float64 {
	return slices.Repeat([]float64{x}, n)
}

func TestExact(t *testing.T) { // P2.3
	for _, c := range []struct {
		what string
		l    []float64
		want bool
	}{
		{"none", nil, true}, {"an empty list", []float64{}, true},
		{"zeros", []float64{0, negZero}, true}, {"whole ones", []float64{1, 2, 3}, true}, {"+Inf", []float64{inf}, true},
		{"all sorts", []float64{1, inf, negZero, 1 << 40, 0}, true},
		{"2^40", []float64{1 << 40}, true}, {"2^40 - 1", []float64{1<<40 - 1}, true}, {"2^40 + 1", []float64{1<<40 + 1}, false},
		{"just above 2^40", []float64{math.Nextafter(1<<40, inf)}, false}, {"just below 2^40", []float64{math.Nextafter(1<<40, 0)}, false},
		{"the greatest", []float64{greatest}, false}, {"2^53", []float64{1 << 53}, false},
		{"a half", []float64{0.5}, false}, {"one and a half", []float64{1.5}, false}, {"the smallest", []float64{smallest}, false},
		{"just below 1", []float64{justOne}, false}, {"a half behind", []float64{1, 2, 0.5}, false}, {"a half ahead", []float64{0.5, 1, 2}, false},
		{"-1", []float64{-1}, false}, {"-Inf", []float64{-inf}, false}, {"NaN", []float64{nan}, false}, {"NaN behind", []float64{inf, nan}, false},
		{"1000 zeros", filled(1000, 0), true}, {"1001 zeros", filled(1001, 0), false},
		{"1000 of 2^40", filled(1000, 1<<40), true}, {"1001 of 2^40", filled(1001, 1<<40), false},
		{"1000 of +Inf", filled(1000, inf), true}, {"1001 of +Inf", filled(1001, inf), false},
		{"999 and a half", append(filled(999, 1), 0.5), false},
	} {
		if got := fop.Exact(c.l...); got != c.want {
			t.Errorf("Exact of %s: got %v, want %v", c.what, got, c.want)
		}
	}
	if !fop.Exact() {
		t.Error("Exact of none: got false")
	}
}

func TestExactIsNotRounded(t *testing.T) { // P2.3
	l := append(filled(499, 1<<40), append(filled(250, 1<<40-1), filled(251, 1)...)...)
	if !fop.Exact(l...) {
		t.Fatal("the list is not Exact")
	}
	want := new(big.Int)
	for _, x := range l {
		want.Add(want, big.NewInt(int64(x)))
	}
	sum, e := fop.Path(l...)
	is(t, "Path", sum, e, float64(want.Int64()), api.OK)
	if int64(sum) != want.Int64() {
		t.Errorf("Path: got %v, want %v", sum, want)
	}
}

func TestTimesIsNotAbove(t *testing.T) { // P2.4
	for _, a := range chances {
		for _, b := range chances {
			x, e := fop.Times(a, b)
			if e != api.OK || x > a || x > b {
				t.Errorf("Times(%v, %v): got %v, error %d", a, b, x, e)
			}
		}
	}
}

func TestPlusIsNotBelow(t *testing.T) { // P2.4
	for _, a := range prices {
		for _, b := range prices {
			x, e := fop.Plus(a, b)
			if e != api.OK || x < a || x < b {
				t.Errorf("Plus(%v, %v): got %v, error %d", a, b, x, e)
			}
		}
	}
}

// turned tells a list in several orders: round by some places, and backwards.
func turned(l []float64) (all [][]float64) {
	for i := 0; i < len(l); i += 1 + len(l)/20 {
		one := slices.Concat(l[i:], l[:i])
		back := slices.Clone(one)
		slices.Reverse(back)
		all = append(all, one, back)
	}
	return all
}

func TestExactPathHasNoOrder(t *testing.T) { // P2.4
	long := filled(1000, 1<<40)
	for i := range long {
		long[i] -= float64(i * i * i % 1009)
	}
	for _, l := range [][]float64{{3, 1, 2}, {1, inf, 1 << 40, 0, negZero}, {1 << 40, 1, 1<<40 - 1}, long} {
		if !fop.Exact(l...) {
			t.Fatal("the list is not Exact")
		}
		want, _ := fop.Path(l...)
		for _, o := range turned(l) {
			x, e := fop.Path(o...)
			is(t, "Path in another order", x, e, want, api.OK)
		}
	}
}

func TestNothingIsChanged(t *testing.T) { // rule 3
	room := []float64{0.5, negZero, 1, 0.75, 9}
	l, other := room[:4], []float64{1, 1, negZero, 0.5}
	before, otherBefore := slices.Clone(room), slices.Clone(other)
	fop.Dot(l, other)
	fop.Dot(other, l)
	fop.Path(l...)
	fop.Exact(l...)
	fop.Exact(other...)
	for i, x := range before {
		if !flo.Same(room[i], x) {
			t.Errorf("place %d was changed", i)
		}
	}
	for i, x := range otherBefore {
		if !flo.Same(other[i], x) {
			t.Errorf("place %d of the other was changed", i)
		}
	}
}
