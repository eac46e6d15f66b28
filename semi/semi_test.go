package semi_test

import (
	"math"
	"reflect"
	"slices"
	"strings"
	"testing"

	"tansy/api"
	"tansy/nat"
	"tansy/semi"
)

const top = 1<<32 - 1

var (
	nan      = math.NaN()
	inf      = math.Inf(1)
	negZero  = math.Copysign(0, -1)
	smallest = math.SmallestNonzeroFloat64
	greatest = math.MaxFloat64
	justOne  = math.Nextafter(1, 0)
)

// noSems are the numbers of no semiring.
var noSems = []int{0, -1, 7, 8, 255, -6, 1<<32 + 1, 1<<32 + 6, math.MinInt, math.MaxInt}

// num, infinite, level and double are values, whether they may be or not.
func num(sem int, digits ...uint32) api.Value {
	return api.Value{Sem: sem, Nat: api.Nat{W: digits}}
}

func infinite(sem int) api.Value { return api.Value{Sem: sem, Nat: api.Nat{Inf: true}} }

func level(sem, k int) api.Value { return api.Value{Sem: sem, Level: k} }

func double(sem int, x float64) api.Value { return api.Value{Sem: sem, X: x} }

// good holds values of one semiring that may be, each once, from the worst one on: a later one is Better.
func good(sem int) (l []api.Value) {
	switch sem {
	case api.Count, api.Trop:
		l = []api.Value{
			num(sem), num(sem, 1), num(sem, 2), num(sem, 7), num(sem, top), num(sem, 0, 1), num(sem, 3, 1), num(sem, top, top),
			num(sem, slices.Repeat([]uint32{top}, 70)...), infinite(sem),
		}
	case api.Bool:
		l = []api.Value{level(sem, 0), level(sem, 1)}
	case api.Chain:
		for k := range 8 {
			l = append(l, level(sem, k))
		}
	case api.Best:
		for _, x := range []float64{0, smallest, 3 * smallest, 1e-160, 0.1, 0.25, 0.5, 0.75, justOne, 1} {
			l = append(l, double(sem, x))
		}
	case api.Cost:
		for _, x := range []float64{0, smallest, 0.1, 0.5, 1, 2, 3, 1 << 40, greatest, inf} {
			l = append(l, double(sem, x))
		}
	}
	if sem == api.Trop || sem == api.Cost {
		slices.Reverse(l)
	}
	return l
}

// allGood holds those of all semirings.
func allGood() (l []api.Value) {
	for sem := 1; sem <= api.Sems; sem++ {
		l = append(l, good(sem)...)
	}
	return l
}

// badFields holds values of semirings whose field is none.
func badFields() (l []api.Value) {
	for _, sem := range []int{api.Count, api.Trop} {
		l = append(l, num(sem, 0), num(sem, 0, 0), num(sem, 5, 0), num(sem, top, 0, 0))
		for _, digits := range [][]uint32{{0}, {1}, {5, 0}} {
			l = append(l, api.Value{Sem: sem, Nat: api.Nat{Inf: true, W: digits}})
		}
	}
	for _, k := range []int{-1, 2, 3, 7, 8, 256, 257, math.MinInt, math.MaxInt} {
		l = append(l, level(api.Bool, k))
	}
	for _, k := range []int{-1, -7, 8, 9, 256, 263, math.MinInt, math.MaxInt} {
		l = append(l, level(api.Chain, k))
	}
	for _, x := range []float64{nan, -nan, math.Float64frombits(0x7FF0000000000001), negZero, -smallest, -0.5, -1, -greatest, -inf} {
		l = append(l, double(api.Best, x), double(api.Cost, x))
	}
	for _, x := range []float64{math.Nextafter(1, 2), 1.5, 2, greatest, inf} {
		l = append(l, double(api.Best, x))
	}
	return l
}

// unlikeSems holds values of no semiring, with fields that would do in one.
func unlikeSems() (l []api.Value) {
	for _, sem := range noSems {
		l = append(l, api.Value{Sem: sem}, num(sem, 5), infinite(sem), level(sem, 1), double(sem, 0.5), double(sem, nan))
	}
	return l
}

// littered is a value with something in all the fields that its Sem does not name, such as may not be.
func littered(v api.Value) api.Value {
	junk := api.Nat{Inf: true, W: []uint32{9, 0}}
	switch v.Sem {
	case api.Count, api.Trop:
		v.Level, v.X = -3, nan
	case api.Bool, api.Chain:
		v.Nat, v.X = junk, negZero
	case api.Best, api.Cost:
		v.Nat, v.Level = junk, 99
	}
	return v
}

// alike compares all fields, doubles to the bit.
func alike(a, b api.Value) bool {
	return a.Sem == b.Sem && a.Nat.Inf == b.Nat.Inf && slices.Equal(a.Nat.W, b.Nat.W) && a.Level == b.Level &&
		math.Float64bits(a.X) == math.Float64bits(b.X)
}

// is compares a value, in all its fields, and an error.
func is(t *testing.T, what string, got api.Value, e api.Errno, want api.Value, wantErr api.Errno) {
	t.Helper()
	if !alike(got, want) || e != wantErr {
		t.Errorf("%s: got %v, error %d, want %v, error %d", what, got, e, want, wantErr)
	}
}

// isRefused asks for an error and nothing beside it.
func isRefused(t *testing.T, what string, got api.Value, e, wantErr api.Errno) {
	t.Helper()
	if !reflect.ValueOf(got).IsZero() || e != wantErr {
		t.Errorf("%s: got %v, error %d, want nothing, error %d", what, got, e, wantErr)
	}
}

// must is a value without its error, which there is none.
func must(t *testing.T, v api.Value, e api.Errno) api.Value {
	t.Helper()
	if e != api.OK {
		t.Fatalf("got error %d", e)
	}
	return v
}

func TestMay(t *testing.T) { // P4.1
	want := func(v api.Value, e api.Errno) {
		t.Helper()
		if got := semi.May(v); got != e {
			t.Errorf("May(%v): got %d, want %d", v, got, e)
		}
	}
	for _, v := range allGood() {
		want(v, api.OK)
	}
	for _, v := range badFields() {
		want(v, api.ErrValue)
	}
	for _, v := range unlikeSems() {
		want(v, api.ErrSem)
	}
	empty := num(api.Count)
	empty.Nat.W = []uint32{}
	want(empty, api.OK)
	want(api.Value{Sem: api.Trop, Nat: api.Nat{Inf: true, W: []uint32{}}}, api.OK)
}

func TestMayAsksOneFieldOnly(t *testing.T) { // P4.1
	for _, v := range allGood() {
		if e := semi.May(littered(v)); e != api.OK {
			t.Errorf("May(%v): got %d", littered(v), e)
		}
	}
	for _, v := range badFields() {
		if e := semi.May(littered(v)); e != api.ErrValue {
			t.Errorf("May(%v): got %d", littered(v), e)
		}
	}
	for _, v := range []api.Value{ // another semiring's field doesn't help
		{Sem: api.Count, Nat: api.Nat{W: []uint32{0}}, Level: 1, X: 1},
		{Sem: api.Bool, Nat: api.Nat{W: []uint32{1}}, Level: 2, X: 1},
		{Sem: api.Best, Nat: api.Nat{W: []uint32{1}}, Level: 1, X: 2},
	} {
		if e := semi.May(v); e != api.ErrValue {
			t.Errorf("May(%v): got %d", v, e)
		}
	}
}

func TestZeroAndOne(t *testing.T) { // P4.1
	for _, c := range []struct{ zero, one api.Value }{
		{num(api.Count), num(api.Count, 1)}, {level(api.Bool, 0), level(api.Bool, 1)}, {infinite(api.Trop), num(api.Trop)},
		{level(api.Chain, 0), level(api.Chain, 7)}, {double(api.Best, 0), double(api.Best, 1)}, {double(api.Cost, inf), double(api.Cost, 0)},
	} {
		v, e := semi.Zero(c.zero.Sem)
		is(t, "Zero", v, e, c.zero, api.OK)
		v, e = semi.One(c.one.Sem)
		is(t, "One", v, e, c.one, api.OK)
	}
	for _, sem := range noSems {
		v, e := semi.Zero(sem)
		isRefused(t, "Zero of no semiring", v, e, api.ErrSem)
		v, e = semi.One(sem)
		isRefused(t, "One of no semiring", v, e, api.ErrSem)
	}
}

func TestPlus(t *testing.T) { // P4.2
	for _, c := range []struct{ a, b, want api.Value }{
		{num(api.Count, 2), num(api.Count, 3), num(api.Count, 5)}, {num(api.Count), num(api.Count), num(api.Count)},
		{num(api.Count, top), num(api.Count, 1), num(api.Count, 0, 1)}, {num(api.Count, 2), infinite(api.Count), infinite(api.Count)},
		{infinite(api.Count), infinite(api.Count), infinite(api.Count)},
		{level(api.Bool, 0), level(api.Bool, 0), level(api.Bool, 0)}, {level(api.Bool, 0), level(api.Bool, 1), level(api.Bool, 1)},
		{level(api.Bool, 1), level(api.Bool, 1), level(api.Bool, 1)},
		{num(api.Trop, 4), num(api.Trop, 9), num(api.Trop, 4)}, {num(api.Trop, 4), infinite(api.Trop), num(api.Trop, 4)},
		{num(api.Trop, 5, 1), num(api.Trop, 4, 2), num(api.Trop, 5, 1)}, {num(api.Trop), num(api.Trop, 1), num(api.Trop)},
		{infinite(api.Trop), infinite(api.Trop), infinite(api.Trop)},
		{level(api.Chain, 3), level(api.Chain, 5), level(api.Chain, 5)}, {level(api.Chain, 7), level(api.Chain, 0), level(api.Chain, 7)},
		{double(api.Best, 0.5), double(api.Best, 0.25), double(api.Best, 0.5)}, {double(api.Best, 0), double(api.Best, smallest), double(api.Best, smallest)},
		{double(api.Best, 1), double(api.Best, justOne), double(api.Best, 1)}, {double(api.Best, 0), double(api.Best, 0), double(api.Best, 0)},
		{double(api.Cost, 3), double(api.Cost, 2), double(api.Cost, 2)}, {double(api.Cost, inf), double(api.Cost, greatest), double(api.Cost, greatest)},
		{double(api.Cost, 0), double(api.Cost, smallest), double(api.Cost, 0)}, {double(api.Cost, inf), double(api.Cost, inf), double(api.Cost, inf)},
	} {
		v, e := semi.Plus(c.a, c.b)
		is(t, "Plus", v, e, c.want, api.OK)
		v, e = semi.Plus(littered(c.b), littered(c.a))
		is(t, "Plus the other way round, other fields set", v, e, c.want, api.OK)
	}
	for _, sem := range []int{api.Bool, api.Trop, api.Chain, api.Best, api.Cost} {
		for i, a := range good(sem) {
			for k, b := range good(sem) {
				v, e := semi.Plus(a, b)
				is(t, "Plus", v, e, good(sem)[max(i, k)], api.OK)
			}
		}
	}
}

func TestTimes(t *testing.T) { // P4.2
	for _, c := range []struct{ a, b, want api.Value }{
		{num(api.Count, 2), num(api.Count, 3), num(api.Count, 6)}, {num(api.Count, top), num(api.Count, top), num(api.Count, 1, top-1)},
		{num(api.Count), infinite(api.Count), num(api.Count)}, {num(api.Count, 1), infinite(api.Count), infinite(api.Count)},
		{infinite(api.Count), infinite(api.Count), infinite(api.Count)},
		{level(api.Bool, 0), level(api.Bool, 0), level(api.Bool, 0)}, {level(api.Bool, 0), level(api.Bool, 1), level(api.Bool, 0)},
		{level(api.Bool, 1), level(api.Bool, 1), level(api.Bool, 1)},
		{num(api.Trop, 4), num(api.Trop, 9), num(api.Trop, 13)}, {num(api.Trop, top), num(api.Trop, 2), num(api.Trop, 1, 1)},
		{infinite(api.Trop), num(api.Trop), infinite(api.Trop)}, {infinite(api.Trop), num(api.Trop, 5), infinite(api.Trop)},
		{num(api.Trop), num(api.Trop), num(api.Trop)},
		{level(api.Chain, 3), level(api.Chain, 5), level(api.Chain, 3)}, {level(api.Chain, 7), level(api.Chain, 6), level(api.Chain, 6)},
		{level(api.Chain, 7), level(api.Chain, 7), level(api.Chain, 7)}, {level(api.Chain, 7), level(api.Chain, 0), level(api.Chain, 0)},
		{double(api.Best, 0.5), double(api.Best, 0.25), double(api.Best, 0.125)}, {double(api.Best, 0.1), double(api.Best, 0.1), double(api.Best, 0.010000000000000002)},
		{double(api.Best, smallest), double(api.Best, 0.5), double(api.Best, 0)}, {double(api.Best, 1e-170), double(api.Best, 1e-170), double(api.Best, 0)},
		{double(api.Best, 1e-160), double(api.Best, 1e-160), double(api.Best, 1e-320)}, {double(api.Best, 1), double(api.Best, 1), double(api.Best, 1)},
		{double(api.Cost, 3), double(api.Cost, 2), double(api.Cost, 5)}, {double(api.Cost, 0.1), double(api.Cost, 0.2), double(api.Cost, 0.30000000000000004)},
		{double(api.Cost, inf), double(api.Cost, 0), double(api.Cost, inf)}, {double(api.Cost, inf), double(api.Cost, inf), double(api.Cost, inf)},
		{double(api.Cost, greatest), double(api.Cost, greatest), double(api.Cost, inf)}, {double(api.Cost, 1<<53), double(api.Cost, 1), double(api.Cost, 1<<53)},
		{double(api.Cost, 0), double(api.Cost, 0), double(api.Cost, 0)},
	} {
		v, e := semi.Times(c.a, c.b)
		is(t, "Times", v, e, c.want, api.OK)
		v, e = semi.Times(littered(c.b), littered(c.a))
		is(t, "Times the other way round, other fields set", v, e, c.want, api.OK)
	}
}

func TestStar(t *testing.T) { // P4.2
	ones := []api.Value{level(api.Bool, 1), num(api.Trop), level(api.Chain, 7), double(api.Best, 1), double(api.Cost, 0)}
	for _, one := range ones {
		for _, a := range good(one.Sem) {
			v, e := semi.Star(littered(a))
			is(t, "Star", v, e, one, api.OK)
		}
	}
	for i, a := range good(api.Count) {
		want := infinite(api.Count)
		if i == 0 {
			want = num(api.Count, 1)
		}
		v, e := semi.Star(littered(a))
		is(t, "Star of a count", v, e, want, api.OK)
	}
	for _, a := range badFields() {
		v, e := semi.Star(a)
		isRefused(t, "Star of what may not be", v, e, api.ErrValue)
	}
	for _, a := range unlikeSems() {
		v, e := semi.Star(a)
		isRefused(t, "Star of no semiring", v, e, api.ErrSem)
	}
}

// pairError is why two are refused: the first one's fault, the second one's, that they are unlike.
func pairError(a, b api.Value) api.Errno {
	for _, v := range []api.Value{a, b} {
		if e := semi.May(v); e != api.OK {
			return e
		}
	}
	if a.Sem != b.Sem {
		return api.ErrSem
	}
	return api.OK
}

func TestPairsWrong(t *testing.T) { // P4.2, P4.3
	all := slices.Concat(allGood(), badFields(), unlikeSems())
	for _, a := range all {
		for _, b := range all {
			want := pairError(a, b)
			if want == api.OK {
				continue
			}
			v, e := semi.Plus(a, b)
			isRefused(t, "Plus", v, e, want)
			v, e = semi.Times(a, b)
			isRefused(t, "Times", v, e, want)
			if better, e := semi.Better(a, b); better || e != want {
				t.Errorf("Better(%v, %v): got %v, error %d, want error %d", a, b, better, e, want)
			}
			if semi.Same(a, b) {
				t.Errorf("Same(%v, %v): got true", a, b)
			}
		}
	}
}

func TestWhichErrorIsTold(t *testing.T) { // P4.2, P4.3
	noSem, noField, count, trop := api.Value{Sem: 9}, level(api.Bool, 7), num(api.Count, 2), num(api.Trop, 2)
	for _, c := range []struct {
		a, b api.Value
		want api.Errno
	}{
		{noSem, noField, api.ErrSem}, {noField, noSem, api.ErrValue}, {count, noField, api.ErrValue}, {noField, count, api.ErrValue},
		{count, noSem, api.ErrSem}, {noSem, count, api.ErrSem}, {count, trop, api.ErrSem}, {noSem, noSem, api.ErrSem}, {noField, noField, api.ErrValue},
		{level(api.Bool, 1), level(api.Chain, 1), api.ErrSem}, {double(api.Best, 1), double(api.Cost, 1), api.ErrSem},
	} {
		v, e := semi.Plus(c.a, c.b)
		isRefused(t, "Plus", v, e, c.want)
		v, e = semi.Times(c.a, c.b)
		isRefused(t, "Times", v, e, c.want)
		if better, e := semi.Better(c.a, c.b); better || e != c.want {
			t.Errorf("Better(%v, %v): got %v, error %d, want error %d", c.a, c.b, better, e, c.want)
		}
	}
}

func TestSame(t *testing.T) { // P4.3
	all := slices.Concat(allGood(), badFields(), unlikeSems())
	goods := len(allGood())
	for i, a := range all {
		for k, b := range all {
			if got := semi.Same(a, b); got != (i == k && i < goods) {
				t.Errorf("Same(%v, %v): got %v", a, b, got)
			}
		}
	}
	for _, a := range allGood() {
		if !semi.Same(a, littered(a)) || !semi.Same(littered(a), a) {
			t.Errorf("Same asks more of %v than its field", a)
		}
	}
}

func TestIsZero(t *testing.T) { // P4.3
	for sem := 1; sem <= api.Sems; sem++ {
		for i, a := range good(sem) {
			if got := semi.IsZero(a); got != (i == 0) {
				t.Errorf("IsZero(%v): got %v", a, got)
			}
			if got := semi.IsZero(littered(a)); got != (i == 0) {
				t.Errorf("IsZero(%v): got %v", littered(a), got)
			}
		}
	}
	for _, a := range slices.Concat(badFields(), unlikeSems()) {
		if semi.IsZero(a) {
			t.Errorf("IsZero(%v): got true", a)
		}
	}
	gone := must2(t, semi.Times, double(api.Best, smallest), double(api.Best, smallest))
	if !semi.IsZero(gone) {
		t.Error("a chance that became 0 is not told")
	}
}

// must2 is what a call of two answers, which has no error.
func must2(t *testing.T, call func(a, b api.Value) (api.Value, api.Errno), a, b api.Value) api.Value {
	t.Helper()
	v, e := call(a, b)
	return must(t, v, e)
}

func TestBetter(t *testing.T) { // P4.3
	for sem := 1; sem <= api.Sems; sem++ {
		for i, a := range good(sem) {
			for k, b := range good(sem) {
				if got, e := semi.Better(a, littered(b)); got != (i >= k) || e != api.OK {
					t.Errorf("Better(%v, %v): got %v, error %d", a, b, got, e)
				}
			}
		}
	}
}

func TestText(t *testing.T) { // P4.4
	for _, c := range []struct {
		v    api.Value
		want string
	}{
		{num(api.Count), "0"}, {num(api.Count, 12), "12"}, {num(api.Count, 0, 0, 1), "18446744073709551616"}, {infinite(api.Count), "inf"},
		{level(api.Bool, 0), "0"}, {level(api.Bool, 1), "1"}, {num(api.Trop), "0"}, {num(api.Trop, 5), "5"}, {infinite(api.Trop), "inf"},
		{level(api.Chain, 0), "0"}, {level(api.Chain, 6), "6"}, {level(api.Chain, 7), "7"},
		{double(api.Best, 0), "0b0"}, {double(api.Best, 0.75), "3b-2"}, {double(api.Best, 1), "1b0"}, {double(api.Best, smallest), "1b-1074"},
		{double(api.Cost, 0), "0b0"}, {double(api.Cost, 6), "3b1"}, {double(api.Cost, greatest), "9007199254740991b971"}, {double(api.Cost, inf), "inf"},
	} {
		if got := semi.Text(littered(c.v)); got != c.want {
			t.Errorf("Text(%v): got %q, want %q", c.v, got, c.want)
		}
		v, e := semi.Parse(c.v.Sem, c.want)
		is(t, "Parse of "+c.want, v, e, c.v, api.OK)
	}
	for _, v := range slices.Concat(badFields(), unlikeSems()) {
		if got := semi.Text(v); got != "" {
			t.Errorf("Text(%v): got %q", v, got)
		}
	}
}

func TestParseReadsTexts(t *testing.T) { // P4.4
	for _, a := range allGood() {
		v, e := semi.Parse(a.Sem, semi.Text(a))
		is(t, "Parse of Text", v, e, a, api.OK)
	}
}

// noTexts are in no semiring any value's.
var noTexts = []string{
	"", " ", "00", "01", "+1", "-1", "1 ", " 1", "1\n", "-0", "0x1", "1_0", "1.0", "1e0", "٣", "/", ":", "nan", "NaN", "-inf", "Inf", "INF", "+inf", "inf ",
	"-0b0", "-1b0", "-1b-1", "0b1", "2b0", "1b", "b0", "b", "1b+0", "1b00", "1b-0", "01b0", "1b0 ", "1b-1075", "1b1024", "1B0", "\x00", "0\x00",
}

func TestParseWrong(t *testing.T) { // P4.4
	for sem := 1; sem <= api.Sems; sem++ {
		for _, s := range noTexts {
			v, e := semi.Parse(sem, s)
			isRefused(t, "Parse of "+s, v, e, api.ErrValue)
		}
	}
	for _, c := range []struct {
		sem   int
		texts []string
	}{
		{api.Count, []string{"1b0", "3b-2"}}, {api.Trop, []string{"1b0"}},
		{api.Bool, []string{"2", "7", "9", "10", "inf", "1b0"}}, {api.Chain, []string{"8", "9", "10", "70", "inf", "0b0"}},
		{api.Best, []string{"0", "1", "inf", "1b1", "3b0", "3b-1", "4503599627370497b-52", "9007199254740991b971"}}, {api.Cost, []string{"0", "1", "7"}},
	} {
		for _, s := range c.texts {
			v, e := semi.Parse(c.sem, s)
			isRefused(t, "Parse of "+s, v, e, api.ErrValue)
		}
	}
	for _, sem := range noSems {
		for _, s := range []string{"", "0", "1", "inf", "1b0", "x", strings.Repeat("1", 701)} {
			v, e := semi.Parse(sem, s)
			isRefused(t, "Parse in no semiring", v, e, api.ErrSem)
		}
	}
}

func TestParseOneByte(t *testing.T) { // P4.4
	for b := range 256 {
		s := string([]byte{byte(b)})
		for sem, greatestLevel := range map[int]int{api.Bool: 1, api.Chain: 7} {
			k := b - '0'
			v, e := semi.Parse(sem, s)
			if k >= 0 && k <= greatestLevel {
				is(t, "Parse of a level", v, e, level(sem, k), api.OK)
			} else {
				isRefused(t, "Parse of no level", v, e, api.ErrValue)
			}
		}
	}
}

func TestParseLong(t *testing.T) { // P4.4
	longest, longer := strings.Repeat("9", 700), "1"+strings.Repeat("0", 700)
	for _, sem := range []int{api.Count, api.Trop} {
		most := must1(t, sem, longest)
		if got := semi.Text(most); got != longest {
			t.Errorf("Text of 700 bytes: got %q", got)
		}
		more := api.Value{Sem: sem, Nat: nat.Add(most.Nat, nat.Of(1))}
		if got := semi.Text(more); got != longer {
			t.Errorf("Text of 701 bytes: got %q", got)
		}
	}
	for sem := 1; sem <= api.Sems; sem++ {
		for _, s := range []string{longer, strings.Repeat("0", 701), strings.Repeat("x", 701), strings.Repeat("7", 5000)} {
			v, e := semi.Parse(sem, s)
			isRefused(t, "Parse of more than 700 bytes", v, e, api.ErrValue)
		}
		for _, s := range []string{strings.Repeat("0", 700), strings.Repeat("x", 700), strings.Repeat("0", 699) + "1"} {
			v, e := semi.Parse(sem, s)
			isRefused(t, "Parse of 700 bytes that are none's", v, e, api.ErrValue)
		}
	}
}

// must1 is what s is read as.
func must1(t *testing.T, sem int, s string) api.Value {
	t.Helper()
	v, e := semi.Parse(sem, s)
	return must(t, v, e)
}

// unrounded holds values of one semiring of which no sum and no product of three is rounded.
func unrounded(sem int) (l []api.Value) {
	numbers := []float64{}
	switch sem {
	case api.Best:
		numbers = []float64{0, 1.0 / 1024, 0.125, 0.25, 0.375, 0.5, 0.75, 1}
	case api.Cost:
		numbers = []float64{0, 0.5, 1, 2.25, 3, 100, 1 << 40, inf}
	default:
		return good(sem)
	}
	for _, x := range numbers {
		l = append(l, double(sem, x))
	}
	return l
}

func TestLaws(t *testing.T) { // P4.5
	for sem := 1; sem <= api.Sems; sem++ {
		l := unrounded(sem)
		plus := func(a, b api.Value) api.Value { return must2(t, semi.Plus, a, b) }
		times := func(a, b api.Value) api.Value { return must2(t, semi.Times, a, b) }
		law := func(what string, a, b api.Value) {
			t.Helper()
			if !alike(a, b) || !semi.Same(a, b) {
				t.Errorf("%s: %v is unlike %v", what, a, b)
			}
		}
		for _, a := range l {
			for _, b := range l {
				law("plus has no order", plus(a, b), plus(b, a))
				law("times has no order", times(a, b), times(b, a))
				for _, c := range l {
					law("plus has no groups", plus(plus(a, b), c), plus(a, plus(b, c)))
					law("times has no groups", times(times(a, b), c), times(a, times(b, c)))
					law("times goes over plus", times(a, plus(b, c)), plus(times(a, b), times(a, c)))
				}
			}
		}
	}
}

func TestZeroOneAndStarLaws(t *testing.T) { // P4.5
	for _, a := range allGood() {
		v, e := semi.Zero(a.Sem)
		zero := must(t, v, e)
		v, e = semi.One(a.Sem)
		one := must(t, v, e)
		for _, c := range []struct {
			what      string
			got, want api.Value
		}{
			{"a plus 0", must2(t, semi.Plus, a, zero), a}, {"0 plus a", must2(t, semi.Plus, zero, a), a},
			{"a times 1", must2(t, semi.Times, a, one), a}, {"1 times a", must2(t, semi.Times, one, a), a},
			{"a times 0", must2(t, semi.Times, a, zero), zero}, {"0 times a", must2(t, semi.Times, zero, a), zero},
		} {
			is(t, c.what, c.got, api.OK, c.want, api.OK)
		}
		v, e = semi.Star(a)
		star := must(t, v, e)
		is(t, "1 plus a times its star", must2(t, semi.Plus, one, must2(t, semi.Times, a, star)), api.OK, star, api.OK)
	}
}

func TestRoundedOnesHaveNoOrder(t *testing.T) { // P4.5
	for _, sem := range []int{api.Best, api.Cost} {
		for _, a := range good(sem) {
			for _, b := range good(sem) {
				is(t, "Plus in the other order", must2(t, semi.Plus, a, b), api.OK, must2(t, semi.Plus, b, a), api.OK)
				is(t, "Times in the other order", must2(t, semi.Times, a, b), api.OK, must2(t, semi.Times, b, a), api.OK)
			}
		}
	}
}

// roomy is a value whose digits have more behind them in the same memory, which is told too.
func roomy(sem int, digits ...uint32) (api.Value, []uint32) {
	room := append(slices.Clone(digits), 11, 12, 13)
	return num(sem, room[:len(digits)]...), room
}

// calls are all that take values.
var calls = []func(a, b api.Value) api.Value{
	func(a, b api.Value) api.Value { v, _ := semi.Plus(a, b); return v },
	func(a, b api.Value) api.Value { v, _ := semi.Times(a, b); return v },
	func(a, b api.Value) api.Value { v, _ := semi.Star(a); return v },
	func(a, b api.Value) api.Value {
		semi.May(a)
		semi.Same(a, b)
		semi.IsZero(a)
		semi.Better(a, b)
		semi.Text(a)
		return api.Value{}
	},
}

// spoil writes over a value's memory, its spare room too.
func spoil(v api.Value) {
	l := v.Nat.W[:cap(v.Nat.W)]
	for i := range l {
		l[i] = 0xBAD
	}
}

func TestNothingIsChangedOrKept(t *testing.T) { // rule 3
	for _, sem := range []int{api.Count, api.Trop} {
		for _, digits := range [][]uint32{{}, {7}, {7, 8}, {top, top}, {0}, {7, 0}} {
			for _, others := range [][]uint32{{}, {1}, {7, 8}, {7, 9}, {0, 0, 1}} {
				for i, call := range calls {
					a, room := roomy(sem, digits...)
					b, other := roomy(sem, others...)
					before, otherBefore := slices.Clone(room), slices.Clone(other)
					spoil(call(a, b))
					spoil(call(b, a))
					spoil(call(a, a))
					if !slices.Equal(room, before) || !slices.Equal(other, otherBefore) {
						t.Errorf("call %d changed %v or %v, or shares memory with it", i, before, otherBefore)
					}
					got := call(a, b)
					want := got
					want.Nat.W = slices.Clone(got.Nat.W)
					clear(room)
					clear(other)
					is(t, "an answer after its arguments were changed", got, api.OK, want, api.OK)
				}
			}
		}
	}
}

func TestAnswersAreNewMemory(t *testing.T) { // rule 3
	for sem := 1; sem <= api.Sems; sem++ {
		one, _ := semi.One(sem)
		want := one
		want.Nat.W = slices.Clone(one.Nat.W)
		spoil(one)
		star, _ := semi.Star(must1(t, sem, semi.Text(want)))
		spoil(star)
		again, e := semi.One(sem)
		is(t, "One, after an earlier one was changed", again, e, want, api.OK)
		first := must1(t, sem, semi.Text(want))
		spoil(first)
		is(t, "Parse, after an earlier answer was changed", must1(t, sem, semi.Text(want)), api.OK, want, api.OK)
	}
}

func TestOtherFieldsAreNotHandedOut(t *testing.T) { // rule 2
	for _, a := range allGood() {
		for _, b := range good(a.Sem) {
			for _, call := range calls {
				is(t, "an answer of values with other fields set", call(littered(a), littered(b)), api.OK, call(a, b), api.OK)
			}
		}
	}
}
