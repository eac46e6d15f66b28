package path_test

import (
	"strconv"
	"strings"
	"testing"
	"unsafe"

	"tansy/api"
	"tansy/path"
)

// refuses wants no path, and this error.
func refuses(t *testing.T, s string, want api.Errno) {
	t.Helper()
	if p, e := path.Parse(s); e != want || !isNone(p) {
		t.Errorf("Parse(%.50q), %d bytes: got %v, %d, want error %d", s, len(s), p, e, want)
	}
}

// P7.4
func TestParseOfNoTexts(t *testing.T) {
	texts := []string{
		// nothing, and blanks
		"", " ", "\n", " a", "a ", "a b", "a /b", "a/ b", "a *", "( )", "(a|b) /c", "a{ 1,2}", "a{1 ,2}", "a{1, 2}", "a{1,2 }", "^ a", "\ta",
		// signs too many, or too few
		"|", "a|", "|a", "a||b", "/", "a/", "/a", "a//b", "a|/b", "a/|b", "*", "+", "?", "*a", "a|*", "a/*", "^", "^^a", "a^", "a^b", "^()", "^(a)", "^*", "^|a", "a/^", "a*b", "a*^b", "a()", "()a", "a(b)", "a,b", "a.b", "-a", "a!", "&", "é", "a\x00", "\x00",
		// brackets too many, or too few
		"(", ")", "((", "))", ")(", "(a", "a)", "(a|b", "a|b)", "(a|b))/c", "((a|b)/c", "(a)", "((a))", "(())", "(()*)", "(a*)", "(a|b)", "(a/b)", "((a|b))/c", "((a/b))*", "(a*)*", "(^a)", "(<a b>)*", "(a)/b", "a/(b)", "a|(b)", "a|(b/c)", "(a/b)|c", "a/(b/c)", "(a/b)/c", "a|(b|c)", "(a|b)|c", "a/(b*)", "(a?)|b", "(a{1,2})+", "()()", "(()/a)/b", "[a]", "{a}",
		// bounds
		"a{", "a}", "a{}", "a{,}", "a{,2}", "a{1}", "a{1", "a{1,", "a{1,2", "a{1,2}}", "a{{1,2}", "a{1,2,3}", "a{,1,2}", "a{1;2}", "a{1-2}", "{1,2}", "/{1,2}", "a{a,2}", "a{1,a}", "a{-1,2}", "a{1,-1}", "a{1,-2}", "a{+1,2}", "a{1,+2}", "a{0x1,2}", "a{1_,2}", "a{1.0,2}", "a{1e0,2}", "a{٣,4}",
		"a{00,1}", "a{01,2}", "a{1,02}", "a{001,2}", "a{1,002}", "a{00,}", "a{01,}", "a{0,00}", "a{0,01}",
		"a{0,0}", "a{1,0}", "a{2,1}", "a{8,7}", "a{9,}", "a{9,9}", "a{0,9}", "a{8,9}", "a{10,}", "a{0,10}", "a{10,10}", "a{1,18}",
		"a{4294967296,4294967297}", "a{0,4294967297}", "a{9223372036854775807,}", "a{0,9223372036854775807}", "a{18446744073709551616,}", "a{18446744073709551617,18446744073709551617}", "a{1,18446744073709551618}", "a{1,99999999999999999999}", "a{1," + strings.Repeat("0", 100) + "2}", "a{" + strings.Repeat("9", 3000) + ",}",
		// names otherwise than Name writes them
		"<", ">", "<>", "<a", "a>", "<a>", "<knows>", "<A_9>", "^<a>", "^<>", "^<", "<<>", "<a<b>", "<a>b>", "<a b>c", "c<a b>", "<a b><c d>", "<\\", "<\\>", "<\\3", "<\\3>", "<\\3c", "<\\\\>", "<\\5>", "<\\5C>", "<\\3C>", "<\\3E>", "<\\fF>", "<\\61>", "<\\20>", "<\\20b>", "<a\\20b>", "<-\\61>", "<\\7e>", "<\\ 3c>", "<\\+3>", "<\\-1>", "<\\0x>", "<\\x0>", "<\\g0>", "<\\0g>", "<\\3c\\>", "<\n>", "<\x1f>", "<\x7f>", "<\x80>", "<\xff>", "<é>", "<a\nb>", "\\3c", "a\\3c", "< >>", "<" + strings.Repeat("-", 21) + ">", "<" + strings.Repeat("\\00", 21) + ">", strings.Repeat("a", 21), "^" + strings.Repeat("a", 21), "<\\",
		"a-b", "a b", "~", "'a'", "\"a\"", "a:b",
	}
	for _, s := range texts {
		refuses(t, s, api.ErrSyntax)
	}
}

// P7.4
func TestParseOfTooMuch(t *testing.T) {
	fits := []string{
		"a" + strings.Repeat("*", 19),
		strings.Repeat("a/", 58) + "a",
		strings.Repeat("^a|", 58) + "^a",
		zigzagText(20),
		"a{8,8}{5,5}",
		"a++++",
		strings.Repeat("a", 20),
		"^<" + strings.Repeat("-", 20) + ">",
		"<" + strings.Repeat("\\00", 20) + ">",
		strings.Repeat("<"+strings.Repeat("\\ff", 20)+">/", 58) + "a",
	}
	for _, s := range fits {
		if p, e := path.Parse(s); e != api.OK || path.Text(p) != s {
			t.Errorf("Parse(%q): got %v, %d", s, p, e)
		}
	}
	tooMuch := []string{
		"a" + strings.Repeat("*", 20),
		"a" + strings.Repeat("*", 40),
		strings.Repeat("a/", 59) + "a",
		strings.Repeat("^a|", 59) + "^a",
		zigzagText(21),
		zigzagText(50),
		"a{8,8}{5,6}",
		"a+++++",
		"a" + strings.Repeat("{8,8}", 100),
		strings.Repeat("a", 21),
		strings.Repeat("a", 4000),
		"a" + strings.Repeat("*", 3999),
		"a" + strings.Repeat("{1,2}", 799),
		strings.Repeat("a|", 1999) + "aa",
		strings.Repeat("(", 300) + "a",
		strings.Repeat("(", 4000),
		strings.Repeat(")", 4000),
		strings.Repeat("(", 1999) + "()" + strings.Repeat(")", 1999),
		strings.Repeat("(", 1999) + "aa" + strings.Repeat(")", 1999),
		strings.Repeat("(a|", 900) + "a" + strings.Repeat(")", 900),
		strings.Repeat("(a/", 900) + "a" + strings.Repeat(")*", 600),
		strings.Repeat("^", 4000),
		strings.Repeat("<", 4000),
		"<" + strings.Repeat("\\", 3999),
		"<" + strings.Repeat("\\00", 1332) + ">",
		"<" + strings.Repeat("-", 3998) + ">",
		strings.Repeat("\xff", 4000),
		strings.Repeat(" ", 4000),
	}
	for _, s := range tooMuch {
		refuses(t, s, api.ErrSyntax)
	}
	for _, s := range append(tooMuch, "a", "()", "a/b", " ") {
		for _, n := range []int{4001, 4002, 100_000} {
			refuses(t, strings.Repeat(s, n/len(s)+1)[:n], api.ErrBig)
		}
		refuses(t, strings.Repeat(s, 4000/len(s)+1)[:4000], api.ErrSyntax)
	}
	refuses(t, "a"+strings.Repeat(" ", 4000), api.ErrBig)
	refuses(t, "a"+strings.Repeat(" ", 3999), api.ErrSyntax)
}

// each calls f with all texts of at most so many of these bytes.
func each(bytes string, most int, f func(s string)) {
	all := []string{""}
	for range most + 1 {
		var longer []string
		for _, s := range all {
			f(s)
			for i := range len(bytes) {
				longer = append(longer, s+bytes[i:i+1])
			}
		}
		all = longer
	}
}

// grammar makes all texts of so many bytes by the rules of P7.3, and their paths beside them: those of word, forth and perhaps back, of perhaps PEps, and of signs, each beside a path that still lacks its Kid.
type grammar struct {
	word      string
	back, eps bool
	signs     []written
}

// kidLists has lists of so many Kids or more, with a sign between.
func kidLists(kind, n, least int, sign string, kid func(n int) []written) []written {
	var out []written
	for first := 1; first <= n; first++ {
		for _, k := range kid(first) {
			if first == n && least <= 1 {
				out = append(out, written{of(kind, k.p), k.want})
			}
			for _, rest := range kidLists(kind, n-first-len(sign), least-1, sign, kid) {
				kids := append([]api.Path{k.p}, rest.p.Kids...)
				out = append(out, written{of(kind, kids...), k.want + sign + rest.want})
			}
		}
	}
	return out
}

// bracketed is those with brackets about them.
func bracketed(l []written) []written {
	var out []written
	for _, w := range l {
		out = append(out, written{w.p, "(" + w.want + ")"})
	}
	return out
}

func (g grammar) alts(n int) []written {
	return kidLists(api.PAlt, n, 2, "|", func(n int) []written { return append(g.tight(n), g.seqs(n)...) })
}

func (g grammar) seqs(n int) []written {
	return kidLists(api.PSeq, n, 2, "/", func(n int) []written { return append(g.tight(n), bracketed(g.alts(n-2))...) })
}

// tight has those that need no brackets wherever they stand.
func (g grammar) tight(n int) []written {
	if n < 1 {
		return nil
	}
	label := strings.Repeat(g.word, n)
	out := []written{{fwd(label), label}}
	if g.back && n > 1 {
		out = append(out, written{back(label[1:]), "^" + label[1:]})
	}
	if g.eps && n == 2 {
		out = append(out, written{eps, "()"})
	}
	for _, sign := range g.signs {
		m := n - len(sign.want)
		kids := append(g.tight(m), bracketed(append(g.alts(m-2), g.seqs(m-2)...))...)
		for _, k := range kids {
			p := sign.p
			p.Kids = []api.Path{k.p}
			out = append(out, written{p, k.want + sign.want})
		}
	}
	return out
}

// reads wants s to be read as p.
func reads(t *testing.T, s string, p api.Path) {
	t.Helper()
	got, e := path.Parse(s)
	if e != api.OK || !path.Same(got, p) || !isPlain(got) {
		t.Errorf("Parse(%q): got %v, %d, want %v", s, got, e, p)
	}
	if text := path.Text(p); text != s {
		t.Errorf("Text of %v: got %q, want %q", p, text, s)
	}
}

// P7.3 to P7.5: of all texts of some bytes just those of the grammar are read, and as what they are made of.
func TestParseOfAllShortTexts(t *testing.T) {
	star, plus, opt := written{of(api.PStar), "*"}, written{of(api.PPlus), "+"}, written{of(api.POpt), "?"}
	noEnd, twice := written{api.Path{Kind: api.PRep, Min: 1, Max: -1}, "{1,}"}, written{api.Path{Kind: api.PRep, Min: 1, Max: 1}, "{1,1}"}
	cases := []struct {
		bytes string
		most  int
		g     grammar
	}{
		{"a|/*()^", 6, grammar{"a", true, true, []written{star}}},
		{"a|/()", 8, grammar{"a", false, true, nil}},
		{"a(/)+?", 6, grammar{"a", false, true, []written{plus, opt}}},
		{"1{,}|", 8, grammar{"1", false, false, []written{noEnd, twice}}},
	}
	for _, x := range cases {
		known, found := map[string]api.Path{}, 0
		for n := range x.most + 1 {
			for _, l := range [][]written{x.g.alts(n), x.g.seqs(n), x.g.tight(n)} {
				for _, w := range l {
					if strings.Trim(w.want, x.bytes) == "" && path.Size(w.p) <= api.MaxSize {
						known[w.want] = w.p
					}
				}
			}
		}
		each(x.bytes, x.most, func(s string) {
			if p, ok := known[s]; ok {
				found++
				reads(t, s, p)
			} else {
				refuses(t, s, api.ErrSyntax)
			}
		})
		if found != len(known) || found < 30 {
			t.Errorf("%q: read %d of %d texts", x.bytes, found, len(known))
		}
	}
}

// inName is the name that Name writes with this between `<` and `>`, if there is one.
func inName(body string) (name string, ok bool) {
	for len(body) > 0 {
		c, rest := body[0], body[1:]
		if c == '\\' {
			n, e := strconv.ParseUint(rest[:min(len(rest), 2)], 16, 8)
			if e != nil || len(rest) < 2 || strings.ToLower(rest[:2]) != rest[:2] {
				return "", false
			}
			c, rest = byte(n), rest[2:]
			if c >= ' ' && c <= '~' && !strings.Contains(`<>\`, string(c)) {
				return "", false
			}
		} else if c < ' ' || c > '~' || c == '<' || c == '>' {
			return "", false
		}
		name, body = name+string([]byte{c}), rest
	}
	return name, strings.Trim(name, word) != "" && len(name) <= 20
}

// P7.2, P7.4: of all that may stand between `<` and `>` just what Name writes is read.
func TestParseOfAllShortNames(t *testing.T) {
	for _, bytes := range []string{`a-<>\03`, `\35cCeEx`, "\\07f \x7f\xff", `\+-_0`} {
		found := 0
		each(bytes, 6, func(body string) {
			name, ok := inName(body)
			if !ok {
				refuses(t, "<"+body+">", api.ErrSyntax)
				return
			}
			found++
			if got := path.Name(name); got != "<"+body+">" {
				t.Errorf("Name(%q): got %q, want %q", name, got, "<"+body+">")
			}
			reads(t, "<"+body+">", fwd(name))
			reads(t, "^<"+body+">", back(name))
		})
		if found == 0 {
			t.Errorf("%q: read no name", bytes)
		}
	}
}

// P7.4: what is a byte away from a text is one itself, or is refused.
func TestParseNearTexts(t *testing.T) {
	bytes := "a9_ ^|/*+?{},()<>\\-\x00\xff"
	near := func(s string) {
		p, e := path.Parse(s)
		if e == api.OK && (path.Text(p) != s || path.Check(p) != api.OK || !isPlain(p)) || e != api.OK && (e != api.ErrSyntax || !isNone(p)) {
			t.Errorf("Parse(%q): got %v, %d", s, p, e)
		}
	}
	for _, one := range kinds() {
		for _, two := range append(inEach(one.p, one.want), written{want: `<a b>|(^<\3c>/a9){0,8}`}) {
			s := two.want
			for i := range len(s) {
				near(s[:i])
				near(s[i:])
				near(s[:i] + s[i+1:])
				near(s[:i] + s[i:i+1] + s[i:])
				for j := range len(bytes) {
					near(s[:i] + bytes[j:j+1] + s[i:])
					near(s[:i] + bytes[j:j+1] + s[i+1:])
					near(s + bytes[j:j+1])
				}
			}
		}
	}
}

// P7.5: all right paths of few nodes.
func TestParseOfTextOfAllSmallOnes(t *testing.T) {
	found := 0
	for _, p := range raw(3) {
		if path.Check(p) == api.OK {
			found++
			readsBack(t, p)
		}
	}
	if found < 1000 {
		t.Errorf("only %d right ones", found)
	}
}

// roomy is p with spare room behind all its lists, which is filled with what nobody may change.
func roomy(p api.Path) api.Path {
	kids := make([]api.Path, 0, len(p.Kids)+2)
	for _, k := range p.Kids {
		kids = append(kids, roomy(k))
	}
	kids = append(kids, fwd("spare"), back("spare"))
	p.Kids = kids[:len(p.Kids)]
	return p
}

// isRoomy tells whether roomy's p is still what it was made of.
func isRoomy(p, was api.Path) bool {
	spare := p.Kids[len(p.Kids):cap(p.Kids)]
	if len(p.Kids) != len(was.Kids) || len(spare) < 2 || !path.Same(spare[0], fwd("spare")) || !path.Same(spare[1], back("spare")) {
		return false
	}
	if p.Kind != was.Kind || p.Label != was.Label || p.Min != was.Min || p.Max != was.Max {
		return false
	}
	for i, k := range p.Kids {
		if !isRoomy(k, was.Kids[i]) {
			return false
		}
	}
	return true
}

// P7.5: what is handed in is not changed.
func TestNothingHandedInIsChanged(t *testing.T) {
	paths := []api.Path{{}, fwd(""), hung(30, api.PStar, a), wide(api.PSeq, 70, a), hung(50, api.PSeq, a)}
	for _, one := range kinds() {
		paths = append(paths, one.p)
		for _, two := range inEach(one.p, one.want) {
			two.p.Label, two.p.Min, two.p.Max = "x", 1, 2
			paths = append(paths, two.p)
		}
	}
	for _, p := range paths {
		x, y := roomy(p), roomy(p)
		path.Check(x)
		path.Deep(x)
		path.Size(x)
		path.Text(x)
		path.Same(x, y)
		path.Same(x, x)
		if !isRoomy(x, p) || !isRoomy(y, p) {
			t.Errorf("%v was changed", p)
		}
	}
}

// lists has all lists of Kids of p, with their spare room.
func lists(p api.Path) [][]api.Path {
	out := [][]api.Path{p.Kids[:cap(p.Kids)]}
	for _, k := range p.Kids {
		out = append(out, lists(k)...)
	}
	return out
}

// P7.5: what is answered is new memory, each list of its own, and what is handed in is not kept.
func TestAnswersAreNewMemory(t *testing.T) {
	const text = `(a|^<b c>|(a|b)/(a|b)/c{1,2})+/a*/(a|b)`
	p, _ := path.Parse(text)
	again, _ := path.Parse(text)
	places := map[*api.Path]int{}
	for _, q := range []api.Path{p, again} {
		for _, l := range lists(q) {
			for i := range l {
				places[&l[i]]++
			}
		}
	}
	for _, n := range places {
		if n > 1 {
			t.Fatalf("two lists share memory")
		}
	}
	for _, l := range lists(p) {
		clear(l)
	}
	if third, _ := path.Parse(text); path.Text(again) != text || path.Text(third) != text {
		t.Errorf("answers hang on each other")
	}
}

// P7.5: texts are not kept either.
func TestTextsAreNewMemory(t *testing.T) {
	for _, s := range []string{"knows", "^knows", "<a b>", "^<a b>", "knows/a"} {
		bytes := []byte(s)
		p, e := path.Parse(unsafe.String(&bytes[0], len(bytes)))
		clear(bytes)
		if e != api.OK || path.Text(p) != s {
			t.Errorf("Parse(%q): got %v, %d, behind a change of the text", s, p, e)
		}
	}
	for _, s := range []string{"knows", "a b"} {
		bytes := []byte(s)
		label := unsafe.String(&bytes[0], len(bytes))
		want := path.Name(s)
		name, text := path.Name(label), path.Text(fwd(label))
		clear(bytes)
		if name != want || text != want {
			t.Errorf("Name and Text of %q: got %q, %q, behind a change of the name", s, name, text)
		}
	}
}

// P7.4: a panic within does not get out, and leaves nothing behind.
func TestParseBehindParse(t *testing.T) {
	for range 3 {
		refuses(t, "((((a", api.ErrSyntax)
		reads(t, "(a|b)/c", of(api.PSeq, of(api.PAlt, a, b), c))
		refuses(t, strings.Repeat("a", 4001), api.ErrBig)
		reads(t, "a{1,}", rep(a, 1, -1))
	}
}
