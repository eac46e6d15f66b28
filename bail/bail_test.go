package bail_test

import (
	"errors"
	"math"
	"runtime"
	"strconv"
	"testing"

	"tansy/api"
	"tansy/bail"
)

// plain is a value of another type than a *Bail, though it has all that one has.
type plain bail.Bail

// holder has a *Bail within, and so its Error too.
type holder struct{ *bail.Bail }

// way is one in which a function ends; value is nil where it returns.
type way struct {
	what  string
	f     func()
	value func(v any) bool
}

// isValue wants one value, the very same one where it is a pointer.
func isValue(want any) func(v any) bool {
	return func(v any) bool { return v == want }
}

// isFault wants an error of the language's own.
func isFault(words string) func(v any) bool {
	return func(v any) bool {
		e, ok := v.(runtime.Error)
		return ok && e.Error() == words
	}
}

// others are the panics that neither Catch nor Only may keep, whatever code is asked.
func others() []way {
	var none *bail.Bail
	var noError error
	held := &bail.Bail{Code: api.ErrDeep, At: 7}
	wrapped := errors.Join(held)
	nought, list := 0, []int{1}
	return []way{
		{"a nil *Bail", func() { panic(none) }, isValue(none)},
		{"a Bail", func() { panic(*held) }, isValue(*held)},
		{"a type like Bail", func() { panic((*plain)(held)) }, isValue((*plain)(held))},
		{"what holds a *Bail", func() { panic(holder{held}) }, isValue(holder{held})},
		{"an error with a *Bail within", func() { panic(wrapped) }, isValue(wrapped)},
		{"a **Bail", func() { panic(&none) }, isValue(&none)},
		{"an Errno", func() { panic(api.ErrDeep) }, isValue(api.ErrDeep)},
		{"a text", func() { panic("bail 4 at 7") }, isValue("bail 4 at 7")},
		{"a number", func() { panic(0) }, isValue(0)},
		{"false", func() { panic(false) }, isValue(false)},
		{"NaN", func() { panic(math.NaN()) }, func(v any) bool { x, ok := v.(float64); return ok && x != x }},
		{"a list", func() { panic(list) }, func(v any) bool { l, ok := v.([]int); return ok && &l[0] == &list[0] }},
		{"nil", func() { panic(noError) }, func(v any) bool { _, ok := v.(*runtime.PanicNilError); return ok }},
		{"a division by 0", func() { nought = 1 / nought }, isFault("runtime error: integer divide by zero")},
		{"an index out of range", func() { nought = list[len(list)] }, isFault("runtime error: index out of range [1] with length 1")},
		{"a nil pointer", func() { nought = none.At }, isFault("runtime error: invalid memory address or nil pointer dereference")},
		{"a nil function", func() { var f func(); f() }, isFault("runtime error: invalid memory address or nil pointer dereference")},
	}
}

// returns are the functions that return.
func returns() []way {
	return []way{
		{"nil", nil, nil},
		{"nothing", func() {}, nil},
		{"a panic that it recovers itself", func() { defer func() { recover() }(); bail.Out(api.ErrDeep, 7) }, nil},
		{"Error of a Bail", func() { _ = (&bail.Bail{Code: api.ErrDeep}).Error() }, nil},
	}
}

// panics has what f panics with, by the language's own means.
func panics(f func()) (v any, panicked bool) {
	panicked = true
	defer func() {
		if panicked {
			v = recover()
		}
	}()
	f()
	return nil, false
}

// goesOn wants f to panic with this value.
func goesOn(t *testing.T, what string, f func(), value func(v any) bool) {
	t.Helper()
	v, panicked := panics(f)
	if !panicked || !value(v) {
		t.Errorf("%s: got panic %v with %v, want its own", what, panicked, v)
	}
}

// caught wants that f does not panic.
func caught(t *testing.T, what string, f func()) {
	t.Helper()
	if v, panicked := panics(f); panicked {
		t.Errorf("%s: got a panic with %v, want none", what, v)
	}
}

// catches wants what Catch answers.
func catches(t *testing.T, what string, f func(), code api.Errno, at int) {
	t.Helper()
	caught(t, what, func() {
		if c, a := bail.Catch(f); c != code || a != at {
			t.Errorf("%s: got %d, %d, want %d, %d", what, c, a, code, at)
		}
	})
}

// out leaves when it is called.
func out(code api.Errno, at int) func() { return func() { bail.Out(code, at) } }

// P6.1
func TestOut(t *testing.T) {
	for _, c := range []api.Errno{api.OK, api.ErrArg, api.ErrDeep, api.ErrValue, 17, -1, math.MaxInt, math.MinInt} {
		for _, at := range []int{0, 1, 7, -1, math.MaxInt, math.MinInt} {
			v, panicked := panics(out(c, at))
			b, ok := v.(*bail.Bail)
			if !panicked || !ok || b == nil || *b != (bail.Bail{Code: c, At: at}) {
				t.Errorf("Out(%d, %d): got panic %v with %v", c, at, panicked, v)
			}
			catches(t, "Catch of Out", out(c, at), c, at)
		}
	}
}

// P6.1
func TestEachOutHasItsOwnBail(t *testing.T) {
	a, _ := panics(out(api.ErrBig, 1))
	b, _ := panics(out(api.ErrBig, 1))
	if a == b {
		t.Errorf("two Outs share one Bail")
	}
}

// P6.1
func TestCatch(t *testing.T) {
	for _, w := range returns() {
		catches(t, w.what, w.f, 0, 0)
	}
	for _, w := range others() {
		answered := false
		goesOn(t, "Catch of "+w.what, func() { bail.Catch(w.f); answered = true }, w.value)
		if answered {
			t.Errorf("Catch of %s: it answered", w.what)
		}
	}
	catches(t, "a Bail of one's own", func() { panic(&bail.Bail{Code: api.ErrBad, At: -3}) }, api.ErrBad, -3)
	catches(t, "the later of two", func() { defer bail.Out(api.ErrBig, 2); bail.Out(api.ErrDeep, 1) }, api.ErrBig, 2)
	catches(t, "a Bail behind another panic", func() { defer bail.Out(api.ErrBig, 2); panic("x") }, api.ErrBig, 2)
	goesOn(t, "another panic behind a Bail", func() {
		bail.Catch(func() { defer func() { panic("x") }(); bail.Out(api.ErrBig, 2) })
	}, isValue("x"))
}

// P6.1
func TestCatchFromDeepWithin(t *testing.T) {
	var down func(n int)
	down = func(n int) {
		if n == 0 {
			bail.Out(api.ErrDeep, 12)
		}
		down(n - 1)
	}
	catches(t, "from deep within", func() { down(10000) }, api.ErrDeep, 12)
}

// only wants what Only answers.
func only(t *testing.T, what string, code api.Errno, f func(), want bool) {
	t.Helper()
	caught(t, what, func() {
		if got := bail.Only(code, f); got != want {
			t.Errorf("%s: got %v, want %v", what, got, want)
		}
	})
}

// P6.1
func TestOnly(t *testing.T) {
	codes := []api.Errno{api.OK, api.ErrArg, api.ErrDeep, api.ErrBig, -1, math.MaxInt, math.MinInt}
	for _, code := range codes {
		for _, w := range returns() {
			only(t, "Only of "+w.what, code, w.f, false)
		}
		for _, w := range others() {
			goesOn(t, "Only of "+w.what, func() { bail.Only(code, w.f) }, w.value)
		}
		for _, c := range codes {
			b := &bail.Bail{Code: c, At: 5}
			if c == code {
				only(t, "Only of its code", code, func() { panic(b) }, true)
			} else {
				goesOn(t, "Only of another code", func() { bail.Only(code, func() { panic(b) }) }, isValue(b))
			}
		}
	}
	only(t, "whatever the place", api.ErrBig, out(api.ErrBig, -9), true)
}

// P6.2
func TestAfter(t *testing.T) {
	ends := append(returns(), others()...)
	b := &bail.Bail{Code: api.ErrDeep, At: 7}
	ends = append(ends, way{"a *Bail", func() { panic(b) }, isValue(b)})
	for _, f := range ends {
		for _, then := range ends {
			said := ""
			do := func() { bail.After(says(&said, "f", f.f), says(&said, "t", then.f)) }
			what := "After of " + f.what + " and " + then.what
			switch {
			case then.value != nil:
				goesOn(t, what, do, then.value)
			case f.value != nil:
				goesOn(t, what, do, f.value)
			default:
				caught(t, what, do)
			}
			if said != "ft" {
				t.Errorf("%s: got %q, want f, then then, once each", what, said)
			}
		}
	}
}

// says notes its name ahead of f.
func says(said *string, name string, f func()) func() {
	return func() {
		*said += name
		if f != nil {
			f()
		}
	}
}

// P6.2
func TestAfterThenCannotRecover(t *testing.T) {
	goesOn(t, "then recovers", func() {
		bail.After(func() { panic("x") }, func() { recover() })
	}, isValue("x"))
	goesOn(t, "then recovers a panic of its own", func() {
		bail.After(func() { panic("x") }, func() {
			defer func() { recover() }()
			panic("y")
		})
	}, isValue("x"))
	goesOn(t, "then catches a Bail of its own", func() {
		bail.After(func() { panic("x") }, func() { bail.Catch(out(api.ErrBig, 1)) })
	}, isValue("x"))
}

// P6.2
func TestSafe(t *testing.T) {
	safe := func(what string, f func(), value func(v any) bool) {
		caught(t, what, func() {
			v, ok := bail.Safe(f)
			if ok != (value == nil) || ok && v != nil || !ok && !value(v) {
				t.Errorf("Safe of %s: got %v, %v", what, v, ok)
			}
		})
	}
	for _, w := range append(returns(), others()...) {
		safe(w.what, w.f, w.value)
	}
	b := &bail.Bail{Code: api.ErrDeep, At: 7}
	safe("a *Bail", func() { panic(b) }, isValue(b))
	safe("the later of two", func() { defer func() { panic(b) }(); panic("x") }, isValue(b))
}

// P6.1, P6.2: a panic that is under way where they are called is not theirs.
func TestWithinADeferredCall(t *testing.T) {
	b := &bail.Bail{Code: api.ErrDeep, At: 7}
	within := []struct {
		what string
		do   func()
	}{
		{"Catch that returns", func() { bail.Catch(func() {}) }},
		{"Catch that catches", func() { bail.Catch(out(api.ErrBig, 1)) }},
		{"Only that returns", func() { bail.Only(api.ErrDeep, func() {}) }},
		{"Only that catches", func() { bail.Only(api.ErrDeep, out(api.ErrDeep, 1)) }},
		{"Safe that returns", func() { bail.Safe(func() {}) }},
		{"Safe that catches", func() { bail.Safe(func() { panic("y") }) }},
		{"After that returns", func() { bail.After(func() {}, func() {}) }},
		{"a function that recovers", func() { bail.Catch(func() { recover() }) }},
		{"Only with one that recovers", func() { bail.Only(api.ErrDeep, func() { recover() }) }},
		{"Safe with one that recovers", func() { bail.Safe(func() { recover() }) }},
		{"After with two that recover", func() { bail.After(func() { recover() }, func() { recover() }) }},
	}
	for _, w := range within {
		goesOn(t, w.what, func() { defer w.do(); panic(b) }, isValue(b))
		goesOn(t, w.what+", in a literal", func() { defer func() { w.do() }(); panic(b) }, isValue(b))
		goesOn(t, w.what+", in After", func() { bail.After(func() { panic(b) }, w.do) }, isValue(b))
	}
	goesOn(t, "Catch deferred itself", func() { defer bail.Catch(nil); panic(b) }, isValue(b))
	goesOn(t, "Only deferred itself", func() { defer bail.Only(api.ErrDeep, func() {}); panic(b) }, isValue(b))
	goesOn(t, "Safe deferred itself", func() { defer bail.Safe(func() { recover() }); panic(b) }, isValue(b))
	goesOn(t, "a later panic through Catch", func() {
		defer func() { bail.Catch(func() { panic("later") }) }()
		panic(b)
	}, isValue("later"))
	catches(t, "what a deferred Catch answers", func() {
		defer func() {
			catches(t, "deferred Catch", out(api.ErrBig, 1), api.ErrBig, 1)
			catches(t, "deferred Catch of nothing", nil, 0, 0)
		}()
		panic(b)
	}, api.ErrDeep, 7)
}

// P6.1, P6.2, P6.5: the nearest that catches it does, and nothing goes on behind that.
func TestWithinOneAnother(t *testing.T) {
	catches(t, "Catch in Catch", func() { bail.Catch(out(api.ErrBig, 1)) }, 0, 0)
	catches(t, "Catch in Catch, then Out", func() {
		catches(t, "the inner one", out(api.ErrBig, 1), api.ErrBig, 1)
		bail.Out(api.ErrDeep, 2)
	}, api.ErrDeep, 2)
	catches(t, "Only in Catch", func() { bail.Only(api.ErrBig, out(api.ErrBig, 1)) }, 0, 0)
	catches(t, "Only of another code in Catch", func() { bail.Only(api.ErrDeep, out(api.ErrBig, 1)) }, api.ErrBig, 1)
	only(t, "Only in Only", api.ErrBig, func() { bail.Only(api.ErrDeep, out(api.ErrBig, 1)) }, true)
	only(t, "Only in Only of one code", api.ErrBig, func() { bail.Only(api.ErrBig, out(api.ErrBig, 1)) }, false)
	only(t, "Catch in Only", api.ErrBig, func() { bail.Catch(out(api.ErrBig, 1)) }, false)
	catches(t, "Safe in Catch", func() { bail.Safe(out(api.ErrBig, 1)) }, 0, 0)
	catches(t, "Catch of what Safe answers", func() {
		v, _ := bail.Safe(out(api.ErrBig, 1))
		panic(v)
	}, api.ErrBig, 1)
	v, ok := bail.Safe(func() { bail.Catch(func() { bail.Only(api.ErrBig, func() { panic("x") }) }) })
	if v != "x" || ok {
		t.Errorf("Safe of Catch of Only: got %v, %v", v, ok)
	}
	v, ok = bail.Safe(func() { bail.Safe(func() { panic("x") }) })
	if v != nil || !ok {
		t.Errorf("Safe of Safe: got %v, %v", v, ok)
	}
	catches(t, "Catch in After's then", func() {
		bail.After(out(api.ErrDeep, 2), func() { bail.Catch(out(api.ErrBig, 1)) })
	}, api.ErrDeep, 2)
	catches(t, "Out of After's then", func() { bail.After(out(api.ErrDeep, 2), out(api.ErrBig, 1)) }, api.ErrBig, 1)
	catches(t, "After in After's then", func() {
		bail.After(nil, func() { bail.After(out(api.ErrDeep, 2), nil) })
	}, api.ErrDeep, 2)
}

// nest has n Afters about f, each of which notes its number when then is called and then ends as last says.
func nest(n int, f func(), order *[]int, last func(i int)) func() {
	for i := range n {
		within := f
		f = func() {
			bail.After(within, func() {
				*order = append(*order, i)
				last(i)
			})
		}
	}
	return f
}

// P6.2, P6.5
func TestNestedAfters(t *testing.T) {
	const n = 1000
	b := &bail.Bail{Code: api.ErrDeep, At: 7}
	quiet := func(int) {}
	loud := func(i int) { panic(i) }
	rare := func(i int) {
		if i == n/2 {
			bail.Out(api.ErrBig, i)
		}
	}
	cases := []struct {
		what  string
		f     func()
		last  func(i int)
		value func(v any) bool
	}{
		{"f panics", func() { panic(b) }, quiet, isValue(b)},
		{"f panics with nil", others()[0].f, quiet, others()[0].value},
		{"all panic", func() { panic(b) }, loud, isValue(n - 1)},
		{"each then panics", func() {}, loud, isValue(n - 1)},
		{"one then panics", func() { panic("x") }, rare, func(v any) bool {
			got, ok := v.(*bail.Bail)
			return ok && *got == bail.Bail{Code: api.ErrBig, At: n / 2}
		}},
	}
	for _, c := range cases {
		var order []int
		goesOn(t, c.what, nest(n, c.f, &order, c.last), c.value)
		inOrder(t, c.what, order, n)
	}
	var order []int
	caught(t, "none panics", nest(n, func() {}, &order, quiet))
	inOrder(t, "none panics", order, n)
	order = nil
	catches(t, "Catch of many", nest(n, out(api.ErrBad, 3), &order, quiet), api.ErrBad, 3)
	inOrder(t, "Catch of many", order, n)
}

// inOrder wants the numbers below n, each once, from within outward.
func inOrder(t *testing.T, what string, order []int, n int) {
	t.Helper()
	if len(order) != n {
		t.Fatalf("%s: got %d calls of then, want %d", what, len(order), n)
	}
	for i, o := range order {
		if i != o {
			t.Fatalf("%s: call %d was of then %d", what, i, o)
		}
	}
}

// P6.5
func TestThroughManyThatDoNotCatch(t *testing.T) {
	for _, w := range others() {
		f, said := w.f, 0
		for range 100 {
			within := f
			f = func() {
				bail.Only(api.ErrBig, func() { bail.Catch(func() { bail.After(within, func() { said++ }) }) })
			}
		}
		goesOn(t, w.what+" through many", f, w.value)
		if said != 100 {
			t.Errorf("%s: got %d calls of then", w.what, said)
		}
	}
	behind := false
	caught(t, "what is caught", func() {
		bail.After(func() { bail.Catch(out(api.ErrBig, 1)); behind = true }, nil)
	})
	if !behind {
		t.Errorf("what is caught went on")
	}
}

// P6.2: the end of a goroutine is no panic, and goes on too.
func TestGoexit(t *testing.T) {
	answered := make(chan string, 1)
	go func() {
		said := ""
		defer func() { answered <- said }()
		bail.Catch(func() {
			bail.Only(api.ErrBig, func() {
				bail.Safe(func() { bail.After(runtime.Goexit, func() { said += "then" }) })
				said += " Safe"
			})
			said += " Only"
		})
		said += " Catch"
	}()
	if said := <-answered; said != "then" {
		t.Errorf("got %q, want only then", said)
	}
}

// uses wants what one Use does.
func uses(t *testing.T, what string, m *bail.Meter, n int, code api.Errno, left int) {
	t.Helper()
	at := n
	if code == api.OK {
		at = 0
	}
	catches(t, what, func() { m.Use(n) }, code, at)
	if got := m.Left(); got != left {
		t.Errorf("%s: got Left %d, want %d", what, got, left)
	}
}

// P6.3
func TestMeter(t *testing.T) {
	type use struct {
		n    int
		code api.Errno
		left int
	}
	cases := []struct {
		budget int
		uses   []use
	}{
		{5, []use{{2, 0, 3}, {4, api.ErrBudget, 3}, {-1, api.ErrArg, 3}, {0, 0, 3}, {3, 0, 0}, {0, 0, 0}, {1, api.ErrBudget, 0}, {-1, api.ErrArg, 0}}},
		{5, []use{{5, 0, 0}}},
		{4, []use{{5, api.ErrBudget, 4}, {4, 0, 0}}},
		{1, []use{{1, 0, 0}, {1, api.ErrBudget, 0}, {0, 0, 0}}},
		{0, []use{{0, 0, 0}, {1, api.ErrBudget, 0}, {-1, api.ErrArg, 0}, {math.MaxInt, api.ErrBudget, 0}, {math.MinInt, api.ErrArg, 0}}},
		{-1, []use{{0, 0, 0}, {1, api.ErrBudget, 0}, {-1, api.ErrArg, 0}}},
		{math.MinInt, []use{{0, 0, 0}, {1, api.ErrBudget, 0}, {math.MaxInt, api.ErrBudget, 0}, {math.MinInt, api.ErrArg, 0}}},
		{math.MaxInt, []use{{math.MinInt, api.ErrArg, math.MaxInt}, {1, 0, math.MaxInt - 1}, {math.MaxInt, api.ErrBudget, math.MaxInt - 1}, {math.MaxInt - 1, 0, 0}}},
		{math.MaxInt, []use{{math.MaxInt, 0, 0}, {math.MaxInt, api.ErrBudget, 0}}},
		{math.MaxInt - 1, []use{{math.MaxInt, api.ErrBudget, math.MaxInt - 1}}},
	}
	for _, c := range cases {
		m := bail.NewMeter(c.budget)
		if got := m.Left(); got != max(c.budget, 0) {
			t.Errorf("NewMeter(%d): got Left %d", c.budget, got)
		}
		for _, u := range c.uses {
			uses(t, "budget "+strconv.Itoa(c.budget)+", Use "+strconv.Itoa(u.n), m, u.n, u.code, u.left)
		}
	}
}

// P6.3
func TestNilMeter(t *testing.T) {
	for _, m := range []*bail.Meter{nil, {}} {
		uses(t, "Use(0) of none", m, 0, api.OK, 0)
		uses(t, "Use(1) of none", m, 1, api.ErrBudget, 0)
		uses(t, "Use(-2) of none", m, -2, api.ErrArg, 0)
		uses(t, "Use(greatest) of none", m, math.MaxInt, api.ErrBudget, 0)
		uses(t, "Use(least) of none", m, math.MinInt, api.ErrArg, 0)
	}
}

// P6.3
func TestMetersShareNothing(t *testing.T) {
	a, b := bail.NewMeter(3), bail.NewMeter(3)
	uses(t, "the one", a, 3, api.OK, 0)
	uses(t, "the other", b, 2, api.OK, 1)
}

// P6.3: what is used bit by bit is used up just at the budget.
func TestMeterBitByBit(t *testing.T) {
	for budget := range 20 {
		for bit := 1; bit <= 7; bit++ {
			m, steps := bail.NewMeter(budget), 0
			code, at := bail.Catch(func() {
				for {
					m.Use(bit)
					steps++
				}
			})
			if steps != budget/bit || m.Left() != budget%bit || code != api.ErrBudget || at != bit {
				t.Errorf("budget %d by %d: got %d steps, %d left, %d at %d", budget, bit, steps, m.Left(), code, at)
			}
		}
	}
}

// P6.4
func TestError(t *testing.T) {
	cases := []struct {
		b    *bail.Bail
		want string
	}{
		{nil, "bail"},
		{&bail.Bail{}, "bail 0 at 0"},
		{&bail.Bail{Code: api.ErrDeep, At: 7}, "bail 4 at 7"},
		{&bail.Bail{Code: api.ErrValue, At: 10}, "bail 16 at 10"},
		{&bail.Bail{Code: 17, At: -1}, "bail 17 at -1"},
		{&bail.Bail{Code: -3, At: 1000}, "bail -3 at 1000"},
		{&bail.Bail{Code: math.MaxInt, At: math.MinInt}, "bail 9223372036854775807 at -9223372036854775808"},
		{&bail.Bail{Code: math.MinInt, At: math.MaxInt}, "bail -9223372036854775808 at 9223372036854775807"},
	}
	for _, c := range cases {
		if got := c.b.Error(); got != c.want {
			t.Errorf("got %q, want %q", got, c.want)
		}
	}
	var err error = cases[2].b
	if err.Error() != "bail 4 at 7" {
		t.Errorf("a *Bail as an error: got %q", err.Error())
	}
}

// P6.4
func TestNilFunctions(t *testing.T) {
	catches(t, "Catch(nil)", nil, 0, 0)
	only(t, "Only(0, nil)", api.OK, nil, false)
	only(t, "Only(ErrDeep, nil)", api.ErrDeep, nil, false)
	caught(t, "After(nil, nil)", func() { bail.After(nil, nil) })
	said := ""
	caught(t, "After(nil, then)", func() { bail.After(nil, func() { said += "t" }) })
	caught(t, "After(f, nil)", func() { bail.After(func() { said += "f" }, nil) })
	if said != "tf" {
		t.Errorf("After with one nil: got %q", said)
	}
	goesOn(t, "After(f that panics, nil)", func() { bail.After(func() { panic("x") }, nil) }, isValue("x"))
	goesOn(t, "After(nil, then that panics)", func() { bail.After(nil, func() { panic("x") }) }, isValue("x"))
}
