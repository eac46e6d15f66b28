package nat_test

import (
	"bytes"
	"math/big"
	"slices"
	"strings"
	"testing"

	"tansy/api"
	"tansy/nat"
)

const top = 1<<32 - 1

// w is the number with these digits, whether it may be or not.
func w(digits ...uint32) api.Nat { return api.Nat{W: digits} }

// infWith is infinity with digits: it may not be.
func infWith(digits ...uint32) api.Nat { return api.Nat{Inf: true, W: digits} }

// filled has one digit in all its places.
func filled(n int, digit uint32) api.Nat {
	return api.Nat{W: slices.Repeat([]uint32{digit}, n)}
}

// mixed has n digits that are unlike, made from a seed by a rule.
func mixed(n int, seed uint32) api.Nat {
	l := make([]uint32, n)
	for i := range l {
		seed = seed*1664525 + 1013904223
		l[i] = seed | 1<<31
	}
	return api.Nat{W: l}
}

// ordered holds numbers that may be, each once, the least first.
func ordered() []api.Nat {
	return []api.Nat{
		w(), w(1), w(2), w(9), w(10), w(999999999), w(1000000000), w(1 << 31), w(top - 1), w(top),
		w(0, 1), w(1, 1), w(top, 1), w(0, 2), w(1, top), w(top, top), w(0, 0, 1), w(top, top, 1), w(top, 0, top), w(top, top, top),
		w(0, 0, 0, 1), filled(20, top), filled(64, 1), filled(64, top), filled(65, 1), mixed(90, 7), api.Nat{Inf: true},
	}
}

// wrong holds numbers that may not be, each beside what it counts as.
func wrong() [][2]api.Nat {
	return [][2]api.Nat{
		{w(0), w()}, {w(0, 0, 0), w()}, {w(5, 0), w(5)}, {w(5, 0, 0), w(5)}, {w(0, 1, 0), w(0, 1)}, {w(top, top, 0), w(top, top)},
		{infWith(1), api.Nat{Inf: true}}, {infWith(0), api.Nat{Inf: true}}, {infWith(0, 0), api.Nat{Inf: true}}, {infWith(top, 0), api.Nat{Inf: true}},
	}
}

// all holds numbers that may be, and such as may not.
func all() []api.Nat {
	l := ordered()
	for _, p := range wrong() {
		l = append(l, p[0])
	}
	return l
}

// bigOf is the number that a counts as; nil of infinity.
func bigOf(a api.Nat) *big.Int {
	if a.Inf {
		return nil
	}
	z := new(big.Int)
	for i, d := range a.W {
		z.Or(z, new(big.Int).Lsh(big.NewInt(int64(d)), uint(32*i)))
	}
	return z
}

// natOf is the Nat of a number; infinity of nil.
func natOf(z *big.Int) (a api.Nat) {
	if z == nil {
		return api.Nat{Inf: true}
	}
	for rest := new(big.Int).Set(z); rest.Sign() > 0; rest.Rsh(rest, 32) {
		a.W = append(a.W, uint32(new(big.Int).And(rest, big.NewInt(top)).Uint64()))
	}
	return a
}

// is compares digit by digit.
func is(t *testing.T, what string, got, want api.Nat) {
	t.Helper()
	if got.Inf != want.Inf || !slices.Equal(got.W, want.W) {
		t.Errorf("%s: got %v, want %v", what, got, want)
	}
}

// isRefused wants an error, and beside it nothing.
func isRefused(t *testing.T, what string, got api.Nat, e, want api.Errno) {
	t.Helper()
	is(t, what, got, api.Nat{})
	if e != want {
		t.Errorf("%s: got error %d, want %d", what, e, want)
	}
}

func TestOf(t *testing.T) { // P3.1
	for _, c := range []struct {
		n    uint64
		want api.Nat
	}{
		{0, w()}, {1, w(1)}, {5, w(5)}, {top, w(top)}, {1 << 32, w(0, 1)}, {1<<32 + 7, w(7, 1)},
		{1 << 63, w(0, 1<<31)}, {1<<64 - 1, w(top, top)}, {top << 32, w(0, top)},
	} {
		is(t, "Of", nat.Of(c.n), c.want)
	}
	is(t, "Inf", nat.Inf(), api.Nat{Inf: true})
}

func TestMay(t *testing.T) { // P3.1
	for _, a := range ordered() {
		if !nat.May(a) {
			t.Errorf("May(%v): got false", a)
		}
	}
	if !nat.May(api.Nat{W: []uint32{}}) || !nat.May(api.Nat{Inf: true, W: []uint32{}}) {
		t.Error("May of an empty list: got false")
	}
	for _, p := range wrong() {
		if nat.May(p[0]) {
			t.Errorf("May(%v): got true", p[0])
		}
	}
}

func TestCompare(t *testing.T) { // P3.1
	for i, a := range ordered() {
		for k, b := range ordered() {
			want := 0
			if i < k {
				want = -1
			} else if i > k {
				want = 1
			}
			if got := nat.Compare(a, b); got != want {
				t.Errorf("Compare(%v, %v): got %d, want %d", a, b, got, want)
			}
			if got := nat.Same(a, b); got != (i == k) {
				t.Errorf("Same(%v, %v): got %v", a, b, got)
			}
		}
	}
}

func TestCompareOfWrong(t *testing.T) { // P3.1
	for _, p := range wrong() {
		if nat.Compare(p[0], p[1]) != 0 || nat.Compare(p[1], p[0]) != 0 || !nat.Same(p[0], p[1]) || !nat.Same(p[0], p[0]) {
			t.Errorf("%v does not count as %v", p[0], p[1])
		}
		for _, b := range all() {
			if got, want := nat.Compare(p[0], b), nat.Compare(p[1], b); got != want {
				t.Errorf("Compare(%v, %v): got %d, want %d", p[0], b, got, want)
			}
			if got, want := nat.Same(b, p[0]), nat.Same(b, p[1]); got != want {
				t.Errorf("Same(%v, %v): got %v, want %v", b, p[0], got, want)
			}
		}
	}
}

func TestAdd(t *testing.T) { // P3.1
	for _, c := range []struct{ a, b, want api.Nat }{
		{w(), w(), w()}, {w(2), w(3), w(5)}, {w(), w(7), w(7)},
		{w(top), w(1), w(0, 1)}, {w(top, top), w(1), w(0, 0, 1)}, {w(top, top, 5), w(1), w(0, 0, 6)},
		{w(top), w(top), w(top-1, 1)}, {w(top, top), w(top, top), w(top-1, top, 1)}, {w(0, 1), w(5), w(5, 1)},
		{w(1, 2, 3), w(top, top), w(0, 2, 4)}, {filled(64, top), w(1), w(append(make([]uint32, 64), 1)...)},
		{nat.Inf(), w(), nat.Inf()}, {nat.Inf(), w(9), nat.Inf()}, {nat.Inf(), nat.Inf(), nat.Inf()},
		{w(0, 0), w(0), w()}, {w(1, 0, 0), w(2, 0), w(3)}, {w(top, 0), w(1), w(0, 1)}, {infWith(3), w(1), nat.Inf()},
	} {
		is(t, "Add", nat.Add(c.a, c.b), c.want)
		is(t, "Add", nat.Add(c.b, c.a), c.want)
	}
}

func TestMul(t *testing.T) { // P3.1
	for _, c := range []struct{ a, b, want api.Nat }{
		{w(), w(), w()}, {w(), w(7), w()}, {w(1), w(7), w(7)}, {w(6), w(7), w(42)}, {w(), filled(3, top), w()},
		{w(top), w(2), w(top-1, 1)}, {w(top), w(top), w(1, top-1)}, {w(0, 1), w(0, 1), w(0, 0, 1)},
		{w(top, top), w(top, top), w(1, 0, top-1, top)}, {w(0, 0, 3), w(0, 5), w(0, 0, 0, 15)}, {w(1 << 31), w(2), w(0, 1)},
		{nat.Inf(), w(), w()}, {nat.Inf(), w(1), nat.Inf()}, {nat.Inf(), filled(65, 1), nat.Inf()}, {nat.Inf(), nat.Inf(), nat.Inf()},
		{nat.Inf(), w(0), w()}, {nat.Inf(), w(0, 0), w()}, {infWith(0), w(), w()}, {infWith(0), w(2), nat.Inf()},
		{w(3, 0), w(5, 0, 0), w(15)}, {w(0, 0), w(5), w()},
	} {
		is(t, "Mul", nat.Mul(c.a, c.b), c.want)
		is(t, "Mul", nat.Mul(c.b, c.a), c.want)
	}
}

// bigAdd and bigMul are what Add and Mul should be; nil is infinity.
func bigAdd(x, y *big.Int) *big.Int {
	if x == nil || y == nil {
		return nil
	}
	return new(big.Int).Add(x, y)
}

func bigMul(x, y *big.Int) *big.Int {
	switch {
	case x != nil && x.Sign() == 0 || y != nil && y.Sign() == 0:
		return new(big.Int)
	case x == nil || y == nil:
		return nil
	}
	return new(big.Int).Mul(x, y)
}

func TestAddAndMulAsNumbers(t *testing.T) { // P3.1, P3.4
	l := all()
	for n := range 12 {
		l = append(l, mixed(n, uint32(n)), filled(n, top))
	}
	for _, a := range l {
		for _, b := range l {
			sum, product := nat.Add(a, b), nat.Mul(a, b)
			is(t, "Add", sum, natOf(bigAdd(bigOf(a), bigOf(b))))
			is(t, "Mul", product, natOf(bigMul(bigOf(a), bigOf(b))))
			if !nat.May(sum) || !nat.May(product) {
				t.Errorf("Add or Mul of %v and %v may not be", a, b)
			}
		}
	}
}

func TestText(t *testing.T) { // P3.2
	for _, c := range []struct {
		a    api.Nat
		want string
	}{
		{w(), "0"}, {w(7), "7"}, {w(10), "10"}, {w(999999999), "999999999"}, {w(1000000000), "1000000000"}, {w(1000000001), "1000000001"},
		{w(top), "4294967295"}, {w(0, 1), "4294967296"}, {nat.Of(1000000000000000000), "1000000000000000000"},
		{nat.Of(1<<64 - 1), "18446744073709551615"}, {nat.Mul(nat.Of(1<<32), nat.Of(1<<32)), "18446744073709551616"},
		{filled(4, top), "340282366920938463463374607431768211455"}, {nat.Inf(), "inf"},
		{w(0), "0"}, {w(0, 0), "0"}, {w(5, 0), "5"}, {w(0, 1, 0, 0), "4294967296"}, {infWith(1), "inf"}, {infWith(0), "inf"},
	} {
		if got := nat.Text(c.a); got != c.want {
			t.Errorf("Text(%v): got %s, want %s", c.a, got, c.want)
		}
	}
	for _, a := range slices.Concat(all(), []api.Nat{mixed(300, 3)}) {
		if z := bigOf(a); z != nil && nat.Text(a) != z.String() {
			t.Errorf("Text(%v): got %s, want %s", a, nat.Text(a), z)
		}
	}
}

// isRead wants a text to be read, and to be written so again.
func isRead(t *testing.T, s string, want api.Nat) {
	t.Helper()
	a, e := nat.Parse(s)
	is(t, "Parse("+s+")", a, want)
	if e != api.OK || !nat.May(a) || nat.Text(a) != s {
		t.Errorf("Parse(%s): got %v, error %d, text %s", s, a, e, nat.Text(a))
	}
}

func TestParse(t *testing.T) { // P3.2
	isRead(t, "0", w())
	isRead(t, "inf", api.Nat{Inf: true})
	for _, s := range []string{
		"1", "9", "10", "100", "999999999", "1000000000", "1000000001", "4294967295", "4294967296", "4294967297",
		"18446744073709551615", "18446744073709551616", "1000000000000000000000000000", "123456789012345678901234567890",
		strings.Repeat("9", 699), "1" + strings.Repeat("0", 699), strings.Repeat("9", 700), strings.Repeat("1234567890", 70),
	} {
		z, _ := new(big.Int).SetString(s, 10)
		isRead(t, s, natOf(z))
	}
	for _, a := range ordered() {
		if s := nat.Text(a); len(s) <= 700 {
			isRead(t, s, a)
		}
	}
}

func TestParseWrong(t *testing.T) { // P3.2
	for _, s := range []string{
		"", "00", "01", "007", "000000000", "-1", "-0", "+1", "+", "-", " ", " 1", "1 ", "1 2", "1a", "a1", "a", "0x1", "1_000", "1.0", "1e3",
		"1,000", "1\n", "1\x00", "\x00", "/", ":", "1/", "1:", "\xb1", "1\xff", "\u0661", "1\u0660", "\uff11",
		"Inf", "INF", "inF", "infinity", "+inf", "-inf", "inf ", " inf", "in", "inf0", "0inf", "nan",
		strings.Repeat("0", 700), "0" + strings.Repeat("1", 699), strings.Repeat("1", 699) + "x", strings.Repeat("x", 700),
	} {
		a, e := nat.Parse(s)
		isRefused(t, "Parse("+s+")", a, e, api.ErrValue)
	}
	for _, s := range []string{
		strings.Repeat("1", 701), "1" + strings.Repeat("0", 700), strings.Repeat("0", 701), strings.Repeat("x", 701), strings.Repeat("9", 5000),
	} {
		a, e := nat.Parse(s)
		isRefused(t, "Parse of a long text", a, e, api.ErrBig)
	}
}

func TestBytes(t *testing.T) { // P3.3
	for _, c := range []struct {
		a    api.Nat
		want []byte
	}{
		{w(), []byte{0}}, {nat.Inf(), []byte{255}}, {w(5), []byte{1, 5, 0, 0, 0}}, {w(0x04030201), []byte{1, 1, 2, 3, 4}},
		{w(1, 258), []byte{2, 1, 0, 0, 0, 2, 1, 0, 0}}, {w(0, 1), []byte{2, 0, 0, 0, 0, 1, 0, 0, 0}}, {w(top), []byte{1, 255, 255, 255, 255}},
		{w(0, 1<<31), []byte{2, 0, 0, 0, 0, 0, 0, 0, 128}},
		{filled(64, top), append([]byte{64}, bytes.Repeat([]byte{255}, 256)...)},
	} {
		if b, e := nat.Bytes(c.a); e != api.OK || !bytes.Equal(b, c.want) {
			t.Errorf("Bytes(%v): got %v, error %d, want %v", c.a, b, e, c.want)
		}
	}
}

func TestBytesWrong(t *testing.T) { // P3.3
	isNot := func(a api.Nat, want api.Errno) {
		t.Helper()
		if b, e := nat.Bytes(a); e != want || len(b) > 0 {
			t.Errorf("Bytes of %d digits: got %v, error %d, want error %d", len(a.W), b, e, want)
		}
	}
	for _, p := range wrong() {
		isNot(p[0], api.ErrValue)
	}
	isNot(filled(65, 1), api.ErrBig)
	isNot(filled(255, 1), api.ErrBig)
	isNot(filled(256, 1), api.ErrBig)
	isNot(filled(256+64, 1), api.ErrBig)
	// what may not be is told first
	isNot(filled(65, 0), api.ErrValue)
	isNot(w(append(filled(64, 1).W, 0)...), api.ErrValue)
	isNot(infWith(filled(65, 1).W...), api.ErrValue)
}

func TestUnbytes(t *testing.T) { // P3.3
	for _, a := range slices.Concat(ordered(), []api.Nat{mixed(63, 1), mixed(64, 2)}) {
		b, e := nat.Bytes(a)
		if e != api.OK {
			continue
		}
		for _, behind := range [][]byte{nil, {0}, {7}, {255, 255}, {1, 2, 3, 4, 5, 6}, b} {
			got, n, e := nat.Unbytes(slices.Concat(b, behind))
			is(t, "Unbytes", got, a)
			if n != len(b) || e != api.OK {
				t.Errorf("Unbytes of %v with %d bytes behind: got %d bytes, error %d", a, len(behind), n, e)
			}
		}
	}
}

func TestUnbytesWrong(t *testing.T) { // P3.3
	isNot := func(b []byte) {
		t.Helper()
		a, n, e := nat.Unbytes(b)
		isRefused(t, "Unbytes", a, e, api.ErrBad)
		if n != 0 {
			t.Errorf("Unbytes: got %d bytes beside an error", n)
		}
	}
	for _, b := range [][]byte{
		nil, {}, {1}, {1, 5}, {1, 5, 0, 0}, {2, 1, 0, 0, 0}, {2, 1, 0, 0, 0, 1, 0, 0},
		{1, 0, 0, 0, 0}, {1, 0, 0, 0, 0, 9}, {2, 1, 0, 0, 0, 0, 0, 0, 0}, {2, 0, 0, 0, 0, 0, 0, 0, 0, 1}, {64}, {65}, {254},
	} {
		isNot(b)
	}
	long := bytes.Repeat([]byte{1}, 2000)
	for count := 65; count < 255; count++ {
		long[0] = byte(count)
		isNot(long)
	}
	whole, _ := nat.Bytes(mixed(64, 5))
	for n := range whole {
		isNot(whole[:n])
	}
	nought := slices.Clone(whole)
	clear(nought[len(nought)-4:])
	isNot(nought)
}

func TestNoOrderAndNoGroups(t *testing.T) { // P3.4
	l := []api.Nat{
		w(), w(0), w(1), w(7), w(top), w(0, 1), w(top, top), w(top, 0, 3), w(5, 0), filled(9, top), mixed(11, 4), nat.Inf(), infWith(2),
	}
	for _, a := range l {
		for _, b := range l {
			is(t, "Add in the other order", nat.Add(b, a), nat.Add(a, b))
			is(t, "Mul in the other order", nat.Mul(b, a), nat.Mul(a, b))
			for _, c := range l {
				is(t, "Add in other groups", nat.Add(nat.Add(a, b), c), nat.Add(a, nat.Add(b, c)))
				is(t, "Mul in other groups", nat.Mul(nat.Mul(a, b), c), nat.Mul(a, nat.Mul(b, c)))
				is(t, "Mul over Add", nat.Mul(a, nat.Add(b, c)), nat.Add(nat.Mul(a, b), nat.Mul(a, c)))
			}
		}
	}
}

// roomy has digits with more behind them in the same memory, which is told too.
func roomy(inf bool, digits ...uint32) (api.Nat, []uint32) {
	room := append(digits, 11, 12, 13, 14)
	return api.Nat{Inf: inf, W: room[:len(digits)]}, room
}

func TestNothingIsChanged(t *testing.T) { // P3.4
	for _, inf := range []bool{false, true} {
		for _, digits := range [][]uint32{{}, {0}, {7, 8}, {top, top}, {top, 0}, {1, 2, 3}} {
			a, room := roomy(inf, slices.Clone(digits)...)
			b, other := roomy(false, top, top)
			before, otherBefore := slices.Clone(room), slices.Clone(other)
			for _, call := range []func(a, b api.Nat){
				func(a, b api.Nat) { nat.Add(a, b) }, func(a, b api.Nat) { nat.Mul(a, b) },
				func(a, b api.Nat) { nat.Compare(a, b) }, func(a, b api.Nat) { nat.Same(a, b) },
				func(a, b api.Nat) { nat.May(a); nat.Text(a); nat.Bytes(a); nat.Text(b); nat.Bytes(b) },
			} {
				call(a, b)
				call(b, a)
				call(a, a)
				if !slices.Equal(room, before) || !slices.Equal(other, otherBefore) {
					t.Fatalf("%v or %v was changed: %v, %v", a, b, room, other)
				}
			}
		}
	}
	room := []byte{1, 5, 0, 0, 0, 9, 9, 9, 9, 9}
	before := bytes.Clone(room)
	nat.Unbytes(room[:5])
	if !bytes.Equal(room, before) {
		t.Errorf("the bytes were changed: %v", room)
	}
}

// spoil writes over a number's memory, its spare room too.
func spoil(a api.Nat) {
	l := a.W[:cap(a.W)]
	for i := range l {
		l[i] = 0xBAD
	}
}

func TestAnswersAreNewMemory(t *testing.T) { // P3.4
	for _, b := range []api.Nat{w(), w(1), w(0), nat.Inf()} {
		for _, call := range []func(a, b api.Nat) api.Nat{nat.Add, nat.Mul} {
			a, room := roomy(false, 7, 8)
			before := slices.Clone(room)
			spoil(call(a, b))
			spoil(call(b, a))
			if !slices.Equal(room, before) {
				t.Errorf("an answer shares memory with %v", before)
			}
			got := call(a, b)
			want := api.Nat{Inf: got.Inf, W: slices.Clone(got.W)}
			spoil(a)
			is(t, "an answer after its argument was changed", got, want)
		}
	}
	spoil(nat.Of(5))
	is(t, "Of", nat.Of(5), w(5))
	spoil(nat.Inf())
	is(t, "Inf", nat.Inf(), api.Nat{Inf: true})
	first, _ := nat.Parse("7")
	spoil(first)
	again, _ := nat.Parse("7")
	is(t, "Parse", again, w(7))
}

func TestBytesAreNewMemory(t *testing.T) { // P3.4
	for _, a := range []api.Nat{w(), w(7), nat.Inf()} {
		want, _ := nat.Bytes(a)
		want = bytes.Clone(want)
		first, _ := nat.Bytes(a)
		clear(first[:cap(first)])
		if again, _ := nat.Bytes(a); !bytes.Equal(again, want) {
			t.Errorf("Bytes(%v): got %v, want %v", a, again, want)
		}
	}
	b := []byte{2, 7, 0, 0, 0, 8, 0, 0, 0, 1}
	before := bytes.Clone(b)
	a, _, _ := nat.Unbytes(b)
	clear(b)
	is(t, "Unbytes after its bytes were changed", a, w(7, 8))
	copy(b, before)
	spoil(a)
	if !bytes.Equal(b, before) {
		t.Error("Unbytes shares memory with its bytes")
	}
}
