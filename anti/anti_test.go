package anti_test

import (
	"math"
	"slices"
	"testing"

	"tansy/anti"
	"tansy/api"
)

// set and sets keep the tables short.
func set(l ...int) []int { return l }

func sets(l ...[]int) [][]int { return l }

// many has n sets of one number each, from first on.
func many(first, n int) [][]int {
	l := make([][]int, n)
	for i := range l {
		l[i] = []int{first + i}
	}
	return l
}

// upTo has the numbers below n, and then last.
func upTo(n, last int) []int {
	l := make([]int, n+1)
	for i := range l {
		l[i] = i
	}
	l[n] = last
	return l
}

// of is a family that may be.
func of(t *testing.T, l ...[]int) anti.Family {
	t.Helper()
	f, e := anti.Of(l...)
	if e != api.OK {
		t.Fatalf("Of(%v): got error %d", l, e)
	}
	return f
}

// plus and times have as much budget as there can be.
func plus(t *testing.T, f, g anti.Family) anti.Family {
	t.Helper()
	h, e := f.Plus(g, math.MaxInt)
	if e != api.OK {
		t.Fatalf("%v Plus %v: got error %d", f.Sets(), g.Sets(), e)
	}
	return h
}

func times(t *testing.T, f, g anti.Family) anti.Family {
	t.Helper()
	h, e := f.Times(g, math.MaxInt)
	if e != api.OK {
		t.Fatalf("%v Times %v: got error %d", f.Sets(), g.Sets(), e)
	}
	return h
}

// sameSets takes nil and an empty list as the same.
func sameSets(a, b [][]int) bool { return slices.EqualFunc(a, b, slices.Equal) }

// holds wants just these sets, in this order.
func holds(t *testing.T, what string, f anti.Family, want [][]int) {
	t.Helper()
	if got := f.Sets(); !sameSets(got, want) {
		t.Errorf("%s: got %v, want %v", what, got, want)
	}
	if f.Len() != len(want) {
		t.Errorf("%s: got Len %d, want %d", what, f.Len(), len(want))
	}
}

// isRefused wants an error, and beside it a Family that is Zero.
func isRefused(t *testing.T, what string, f anti.Family, e, want api.Errno) {
	t.Helper()
	holds(t, what, f, nil)
	if e != want {
		t.Errorf("%s: got error %d, want %d", what, e, want)
	}
}

// below has the sets of numbers below n, each as its bits say.
func below(n int) [][]int {
	l := make([][]int, 1<<n)
	for bits := range l {
		for i := range n {
			if bits>>i&1 == 1 {
				l[bits] = append(l[bits], i)
			}
		}
	}
	return l
}

// families has some of the families of numbers below n, by a rule that looks like chance.
func families(t *testing.T, n, count int) []anti.Family {
	t.Helper()
	all, seed := below(n), uint32(n)
	l := []anti.Family{anti.Zero(), anti.One(), {}, of(t, all[len(all)-1])}
	for i := range count {
		var some [][]int
		for range i%7 + 1 {
			seed = seed*1664525 + 1013904223
			some = append(some, all[seed>>16%uint32(len(all))])
		}
		l = append(l, of(t, some...))
	}
	return l
}

// inOrder wants what the chapter says of a family's sets: rising, none twice, in order, none a part of another.
func inOrder(t *testing.T, f anti.Family) {
	t.Helper()
	l := f.Sets()
	for i, a := range l {
		for k := 1; k < len(a); k++ {
			if a[k-1] >= a[k] {
				t.Errorf("%v: %v does not rise", l, a)
			}
		}
		for k, b := range l {
			if i != k && anti.Subset(a, b) {
				t.Errorf("%v: %v is a part of %v", l, a, b)
			}
		}
		if i > 0 && (len(l[i-1]) > len(a) || len(l[i-1]) == len(a) && slices.Compare(l[i-1], a) >= 0) {
			t.Errorf("%v: %v stands behind %v", l, a, l[i-1])
		}
	}
}

func TestZeroAndOne(t *testing.T) { // P5.1, P5.3
	holds(t, "Zero", anti.Zero(), nil)
	holds(t, "a zero Family", anti.Family{}, nil)
	holds(t, "One", anti.One(), sets(nil))
}

func TestOf(t *testing.T) { // P5.1
	for _, c := range []struct{ in, want [][]int }{
		{nil, nil},
		{sets(nil), sets(nil)},
		{sets(set()), sets(nil)},
		{sets(set(7)), sets(set(7))},
		{sets(set(0)), sets(set(0))},
		{sets(set(math.MaxInt, 0)), sets(set(0, math.MaxInt))},
		{sets(set(1, 2), set(1)), sets(set(1))},
		{sets(set(1), set(1, 2)), sets(set(1))},
		{sets(set(3, 1, 3, 1, 2)), sets(set(1, 2, 3))},
		{sets(set(2, 1), set(1, 2), set(1, 1, 2)), sets(set(1, 2))},
		{sets(set(2, 2, 2), set(1, 3)), sets(set(2), set(1, 3))},
		{sets(set(5, 4), nil, set(1)), sets(nil)},
		{sets(set(1, 2, 3), set(3, 1), set(4)), sets(set(4), set(1, 3))},
		{sets(set(1, 2, 3), set(2), set(3, 4), set(4)), sets(set(2), set(4))},
		{sets(set(2, 3), set(1, 9), set(1, 3), set(0, 50)), sets(set(0, 50), set(1, 3), set(1, 9), set(2, 3))},
		{sets(set(1, 2, 4), set(1, 2, 3), set(0, 8, 9), set(1, 3, 4)), sets(set(0, 8, 9), set(1, 2, 3), set(1, 2, 4), set(1, 3, 4))},
		{sets(set(0, 1, 2), set(8, 9), set(10)), sets(set(10), set(8, 9), set(0, 1, 2))},
		{sets(set(10, 2), set(9, 3)), sets(set(2, 10), set(3, 9))},
		{sets(set(1, 2, 3, 4), set(1, 2, 5), set(2, 4)), sets(set(2, 4), set(1, 2, 5))},
	} {
		f := of(t, c.in...)
		holds(t, "Of", f, c.want)
		inOrder(t, f)
	}
}

func TestOfMany(t *testing.T) { // P5.1: Of has no budget
	holds(t, "Of", of(t, many(0, api.MaxSets+1)...), many(0, api.MaxSets+1))
	holds(t, "Of long lists", of(t, upTo(50000, 70000), upTo(50000, 60000), upTo(50001, 60000)), sets(upTo(50000, 60000), upTo(50000, 70000)))
}

func TestOfWrong(t *testing.T) { // P5.1
	for _, in := range [][][]int{
		{set(-1)}, {set(1, 2), set(3, -1)}, {set(-1), set(1)}, {set(5, -7, 5)}, {set(math.MinInt)},
		{nil, set(-1)}, {set(1), set(1, -2)}, {set(0), set(0, 0, -1, 9), set(3)},
	} {
		f, e := anti.Of(in...)
		isRefused(t, "Of", f, e, api.ErrArg)
	}
}

func TestSorted(t *testing.T) { // P5.1
	for _, c := range []struct{ in, want []int }{
		{nil, nil}, {set(), nil}, {set(4), set(4)}, {set(2, 1), set(1, 2)}, {set(3, 1, 3, -2), set(-2, 1, 3)}, {set(0, 0, 0), set(0)},
		{set(math.MaxInt, math.MinInt, 0, math.MinInt), set(math.MinInt, 0, math.MaxInt)}, {set(1, 2, 3), set(1, 2, 3)}, {set(1, 1, 2, 2, 1), set(1, 2)},
	} {
		in := slices.Clone(c.in)
		got := anti.Sorted(in)
		if !slices.Equal(got, c.want) || !slices.Equal(in, c.in) {
			t.Errorf("Sorted(%v): got %v, want %v; handed in: %v", c.in, got, c.want, in)
		}
		for i := range got {
			got[i] = 99
		}
		if !slices.Equal(in, c.in) {
			t.Errorf("Sorted(%v): what it answers is no new memory", c.in)
		}
	}
}

func TestSubset(t *testing.T) { // P5.1
	for _, c := range []struct {
		a, b []int
		want bool
	}{
		{nil, nil, true}, {nil, set(), true}, {nil, set(1), true}, {set(), set(-1), true},
		{set(1), nil, false}, {set(-1), set(), false}, {set(1), set(1), true}, {set(1), set(2), false}, {set(2), set(1), false},
		{set(1, 1), set(2, 1), true}, {set(1, 1, 1), set(1), true}, {set(3, 1), set(1, 2, 3), true}, {set(3, 1), set(3, 2, 1, 2), true},
		{set(1, 4), set(1, 2, 3), false}, {set(0, 1), set(1, 2, 3), false}, {set(1, 2, 3), set(1, 3), false}, {set(1, 2), set(1, 1), false},
		{set(-1, 5), set(5, -1), true}, {set(-1), set(1), false}, {set(-3, -3), set(-2, -3), true}, {set(math.MinInt, math.MaxInt), set(math.MaxInt, 0, math.MinInt), true},
	} {
		a, b := slices.Clone(c.a), slices.Clone(c.b)
		if got := anti.Subset(a, b); got != c.want {
			t.Errorf("Subset(%v, %v): got %v", c.a, c.b, got)
		}
		if !slices.Equal(a, c.a) || !slices.Equal(b, c.b) {
			t.Errorf("Subset(%v, %v) changed them: %v, %v", c.a, c.b, a, b)
		}
	}
	for _, a := range below(4) {
		for bits, b := range below(4) {
			want := true
			for _, x := range a {
				want = want && bits>>x&1 == 1
			}
			if anti.Subset(a, b) != want {
				t.Errorf("Subset(%v, %v): got %v", a, b, !want)
			}
		}
	}
}

func TestHas(t *testing.T) { // P5.2
	f := of(t, set(1), set(2, 3), set(5, 6, 7))
	for _, c := range []struct {
		f    anti.Family
		in   []int
		want bool
	}{
		{f, set(1), true}, {f, set(0, 1), true}, {f, set(2, 3), true}, {f, set(3, 2, 9), true}, {f, set(3, 9, 3, 2, 2, 0), true}, {f, set(7, 5, 6), true},
		{f, set(-4, 3, -4, 2), true}, {f, set(2), false}, {f, set(2, 2), false}, {f, set(3), false}, {f, set(5, 6), false}, {f, set(6, 7, 2), false},
		{f, nil, false}, {f, set(), false}, {f, set(-1), false}, {f, set(-1, -2, -3), false}, {f, set(0, 4, 8), false},
		{anti.One(), nil, true}, {anti.One(), set(), true}, {anti.One(), set(3), true}, {anti.One(), set(-1), true},
		{anti.Zero(), nil, false}, {anti.Zero(), set(1), false}, {anti.Family{}, nil, false}, {anti.Family{}, set(1, 2, -3), false},
	} {
		in := slices.Clone(c.in)
		if got := c.f.Has(in); got != c.want {
			t.Errorf("%v Has(%v): got %v", c.f.Sets(), c.in, got)
		}
		if !slices.Equal(in, c.in) {
			t.Errorf("Has(%v) changed it: %v", c.in, in)
		}
	}
}

func TestPlusAndTimes(t *testing.T) { // P5.2
	for _, c := range []struct{ f, g, sum, product [][]int }{
		{nil, nil, nil, nil},
		{nil, sets(nil), sets(nil), nil},
		{sets(nil), sets(nil), sets(nil), sets(nil)},
		{sets(set(1)), nil, sets(set(1)), nil},
		{sets(set(1)), sets(nil), sets(nil), sets(set(1))},
		{sets(set(1)), sets(set(1)), sets(set(1)), sets(set(1))},
		{sets(set(2)), sets(set(1)), sets(set(1), set(2)), sets(set(1, 2))},
		{sets(set(1)), sets(set(1, 2)), sets(set(1)), sets(set(1, 2))},
		{sets(set(1), set(2, 3)), sets(set(1, 2), set(3)), sets(set(1), set(3)), sets(set(1, 2), set(1, 3), set(2, 3))},
		{sets(set(1, 5), set(3)), sets(set(2), set(0, 9)), sets(set(2), set(3), set(0, 9), set(1, 5)), sets(set(2, 3), set(0, 3, 9), set(1, 2, 5), set(0, 1, 5, 9))},
		{sets(set(1, 2), set(1, 3)), sets(set(2, 3)), sets(set(1, 2), set(1, 3), set(2, 3)), sets(set(1, 2, 3))},
		{sets(set(1), set(2)), sets(set(1), set(3)), sets(set(1), set(2), set(3)), sets(set(1), set(2, 3))},
		{sets(set(4), set(5)), sets(set(0, 1, 2, 3)), sets(set(4), set(5), set(0, 1, 2, 3)), sets(set(0, 1, 2, 3, 4), set(0, 1, 2, 3, 5))},
		{sets(set(0, 1), set(2)), sets(set(0, 1, 2)), sets(set(2), set(0, 1)), sets(set(0, 1, 2))},
	} {
		f, g := of(t, c.f...), of(t, c.g...)
		holds(t, "Plus", plus(t, f, g), c.sum)
		holds(t, "Plus, turned round", plus(t, g, f), c.sum)
		holds(t, "Times", times(t, f, g), c.product)
		holds(t, "Times, turned round", times(t, g, f), c.product)
	}
}

// TestMeaning: a sum holds what one of both holds, a product what both hold.
func TestMeaning(t *testing.T) { // P5.2, P5.3
	all := below(5)
	for _, f := range families(t, 5, 60) {
		for _, g := range families(t, 5, 60) {
			sum, product := plus(t, f, g), times(t, f, g)
			inOrder(t, sum)
			inOrder(t, product)
			for _, s := range all {
				if sum.Has(s) != (f.Has(s) || g.Has(s)) || product.Has(s) != (f.Has(s) && g.Has(s)) {
					t.Fatalf("%v and %v: Plus %v, Times %v, at %v", f.Sets(), g.Sets(), sum.Sets(), product.Sets(), s)
				}
			}
		}
	}
}

// TestLaws: what two families are, the families themselves tell: sets that stand for the same ones are the same.
func TestLaws(t *testing.T) { // P5.3
	l := families(t, 4, 24)
	same := func(what string, f, g anti.Family) {
		t.Helper()
		holds(t, what, f, g.Sets())
	}
	for _, f := range l {
		same("f + 0", plus(t, f, anti.Zero()), f)
		same("0 + f", plus(t, anti.Zero(), f), f)
		same("f 1", times(t, f, anti.One()), f)
		same("1 f", times(t, anti.One(), f), f)
		same("f 0", times(t, f, anti.Zero()), anti.Zero())
		same("0 f", times(t, anti.Family{}, f), anti.Zero())
		same("f + f", plus(t, f, f), f)
		same("f f", times(t, f, f), f)
		same("1 + f", plus(t, anti.One(), f), anti.One())
		same("f + 1", plus(t, f, anti.One()), anti.One())
		for _, g := range l {
			same("f + g", plus(t, f, g), plus(t, g, f))
			same("f g", times(t, f, g), times(t, g, f))
			for _, h := range l {
				same("f + (g + h)", plus(t, f, plus(t, g, h)), plus(t, plus(t, f, g), h))
				same("f (g h)", times(t, f, times(t, g, h)), times(t, times(t, f, g), h))
				same("f (g + h)", times(t, f, plus(t, g, h)), plus(t, times(t, f, g), times(t, f, h)))
			}
		}
	}
}

// TestBudget: what is told counts, not what there is on the way to it.
func TestBudget(t *testing.T) { // P5.2
	a, b, c, d := set(1), set(2), set(3), set(4)
	for _, x := range []struct {
		what    string
		f, g    anti.Family
		product bool
		least   int
	}{
		{"0 + 0", anti.Zero(), anti.Zero(), false, 0},
		{"0 0", anti.Family{}, anti.Family{}, true, 0},
		{"f 0", of(t, a, b, c), anti.Zero(), true, 0},
		{"0 + 1", anti.Zero(), anti.One(), false, 1},
		{"1 1", anti.One(), anti.One(), true, 1},
		{"f + 1", of(t, a, b, c, d), anti.One(), false, 1},
		{"f 1", of(t, a, b, c), anti.One(), true, 3},
		{"f + g", of(t, a, b), of(t, c, d), false, 4},
		{"f g", of(t, a, b), of(t, c, d), true, 4},
		{"f + f", of(t, a, b), of(t, b, a), false, 2},
		{"f f", of(t, a, b, set(3, 4)), of(t, a, b, set(3, 4)), true, 3},
		{"many that have one as a part", of(t, set(1, 2), set(1, 3), set(1, 4), set(1, 5)), of(t, a), false, 1},
		{"sets that are unions themselves", of(t, set(1, 2), set(1, 3), set(1, 4)), of(t, set(2, 3, 4), a), true, 3},
		{"a greater union ahead of a lesser one", of(t, set(1, 2), set(1, 3)), of(t, set(3, 4)), true, 1},
		{"many unions that are the same", of(t, set(1, 2), set(2, 3), set(1, 3)), of(t, set(1, 4), set(2, 4), set(3, 4)), true, 3},
		{"unions of unlike sizes", of(t, set(1, 2), set(3, 4, 5)), of(t, set(2, 3), set(6)), true, 4},
	} {
		call := x.f.Plus
		if x.product {
			call = x.f.Times
		}
		for _, budget := range []int{x.least, x.least + 1, api.MaxSets, api.MaxSets + 1, math.MaxInt} {
			if h, e := call(x.g, budget); e != api.OK || h.Len() != x.least {
				t.Errorf("%s: got %v, error %d of budget %d", x.what, h.Sets(), e, budget)
			}
		}
		for budget := -2; budget < x.least; budget++ { // none at all is still more than a number below 0
			h, e := call(x.g, budget)
			isRefused(t, x.what, h, e, api.ErrBudget)
		}
		h, e := call(x.g, math.MinInt)
		isRefused(t, x.what, h, e, api.ErrBudget)
	}
}

func TestMaxSets(t *testing.T) { // P5.2
	full := of(t, many(1, api.MaxSets)...)
	over := of(t, many(0, api.MaxSets+1)...)
	holds(t, "Plus", plus(t, full, of(t, set(1))), many(1, api.MaxSets))
	holds(t, "Times", times(t, full, anti.One()), many(1, api.MaxSets))
	holds(t, "Times of itself", times(t, full, full), many(1, api.MaxSets))
	holds(t, "Plus of one that is over", plus(t, over, anti.One()), sets(nil))
	holds(t, "Times of one that is over", times(t, over, of(t, upTo(9000, 9000))), sets(upTo(9000, 9000)))
	for _, budget := range []int{api.MaxSets, api.MaxSets + 1, math.MaxInt} {
		h, e := full.Plus(of(t, set(0)), budget)
		isRefused(t, "Plus", h, e, api.ErrBudget)
		h, e = over.Plus(anti.Zero(), budget)
		isRefused(t, "Plus of one that is over", h, e, api.ErrBudget)
		h, e = over.Times(anti.One(), budget)
		isRefused(t, "Times of one that is over", h, e, api.ErrBudget)
		h, e = of(t, many(0, 71)...).Times(of(t, many(100, 71)...), budget)
		isRefused(t, "Times", h, e, api.ErrBudget)
	}
	if got := times(t, of(t, many(0, 50)...), of(t, many(100, 100)...)).Len(); got != api.MaxSets {
		t.Errorf("Times of 50 and 100: got %d sets", got)
	}
}

// spoil turns all numbers of lists, their spare room too.
func spoil(l [][]int) {
	for _, s := range l {
		for i := range s[:cap(s)] {
			s[:cap(s)][i] = -9
		}
	}
}

func TestHandedIn(t *testing.T) { // P5.3
	room := []int{3, 1, 3, 1, 7, 8, 9}
	l := [][]int{room[:3], room[3:5], {2, 2}, nil}
	f := of(t, l[:3]...)
	if !slices.Equal(room, set(3, 1, 3, 1, 7, 8, 9)) || !sameSets(l, sets(set(3, 1, 3), set(1, 7), set(2, 2), nil)) {
		t.Errorf("Of changed what it was handed: %v, %v", room, l)
	}
	spoil(l)
	holds(t, "Of, when its lists are turned", f, sets(set(2), set(1, 3), set(1, 7)))
}

func TestNewMemory(t *testing.T) { // P5.3
	f, g := of(t, set(2), set(1, 3)), of(t, set(4), set(1, 5))
	sum, product := plus(t, f, g), times(t, f, g)
	wantF, wantG, wantSum, wantProduct := f.Sets(), g.Sets(), sum.Sets(), product.Sets()
	for _, h := range []anti.Family{f, g, sum, product, plus(t, f, anti.Zero()), times(t, anti.One(), f), anti.One()} {
		spoil(h.Sets())
		clear(h.Sets())
	}
	_, e := f.Times(g, 1)
	if e != api.ErrBudget {
		t.Errorf("Times: got error %d", e)
	}
	holds(t, "f", f, wantF)
	holds(t, "g", g, wantG)
	holds(t, "Plus", sum, wantSum)
	holds(t, "Times", product, wantProduct)
	holds(t, "One", anti.One(), sets(nil))
	l := sum.Sets()
	_ = append(l[0], 77) // each list has room of its own
	_ = append(l[1], 88)
	if !sameSets(l, wantSum) {
		t.Errorf("Sets: the lists share room: %v", l)
	}
	holds(t, "Plus, once more", plus(t, f, g), wantSum)
	holds(t, "Times, once more", times(t, f, g), wantProduct)
}
