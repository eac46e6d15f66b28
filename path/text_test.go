package path_test

import (
	"fmt"
	"strings"
	"testing"

	"tansy/api"
	"tansy/path"
)

const word = "abcdefghijklmnopqrstuvwxyzABCDEFGHIJKLMNOPQRSTUVWXYZ0123456789_"

// P7.2
func TestName(t *testing.T) {
	cases := []struct{ s, want string }{
		{"", "<>"},
		{"a", "a"},
		{"_", "_"},
		{"0", "0"},
		{word, word},
		{strings.Repeat("a", 5000), strings.Repeat("a", 5000)},
		{"knows", "knows"},
		{"a b", "<a b>"},
		{" ", "< >"},
		{"a-b", "<a-b>"},
		{"a.", "<a.>"},
		{"()", "<()>"},
		{"a|b/c*", "<a|b/c*>"},
		{"^a", "<^a>"},
		{"?", "<?>"},
		{"<", `<\3c>`},
		{">", `<\3e>`},
		{`\`, `<\5c>`},
		{"<a>", `<\3ca\3e>`},
		{`\3c`, `<\5c3c>`},
		{"\x00", `<\00>`},
		{"a\nb", `<a\0ab>`},
		{"\x1f \x7e\x7f", "<\\1f ~\\7f>"},
		{"é", `<\c3\a9>`},
		{"\xff\xfe\x80", `<\ff\fe\80>`},
		{"aé", `<a\c3\a9>`},
		{"\uff11", `<\ef\bc\91>`},
		{strings.Repeat("\x00", 5000), "<" + strings.Repeat(`\00`, 5000) + ">"},
	}
	for _, x := range cases {
		if got := path.Name(x.s); got != x.want {
			t.Errorf("Name(%q): got %q, want %q", x.s, got, x.want)
		}
	}
}

// P7.2
func TestNameOfEveryByte(t *testing.T) {
	for i := range 256 {
		s, inner := string([]byte{byte(i)}), string([]byte{byte(i)})
		if i < 32 || i > 126 || strings.Contains(`<>\`, s) {
			inner = fmt.Sprintf(`\%02x`, i)
		}
		want := "<" + inner + ">"
		if strings.Contains(word, s) {
			want = s
		}
		if got := path.Name(s); got != want {
			t.Errorf("Name(%q): got %q, want %q", s, got, want)
		}
		if got := path.Name("a" + s + "-"); got != "<a"+inner+"->" {
			t.Errorf("Name(%q): got %q", "a"+s+"-", got)
		}
		for _, p := range []api.Path{fwd(s), back(s), of(api.PSeq, eps, fwd("a"+s+"-")), of(api.PStar, back(s+s))} {
			readsBack(t, p)
		}
	}
}

// readsBack wants the text of p to be read as p.
func readsBack(t *testing.T, p api.Path) {
	t.Helper()
	s := path.Text(p)
	got, e := path.Parse(s)
	if s == "" || e != api.OK || !path.Same(got, p) || !isPlain(got) {
		t.Errorf("%v: the text is %q, which is read as %v, %d", p, s, got, e)
	}
}

// isPlain tells whether all that is not asked is zero.
func isPlain(p api.Path) bool {
	if p.Label != "" && p.Kind != api.PFwd && p.Kind != api.PBack || (p.Min != 0 || p.Max != 0) && p.Kind != api.PRep {
		return false
	}
	for _, k := range p.Kids {
		if !isPlain(k) {
			return false
		}
	}
	return true
}

// written is a path and what P7.3 makes of it.
type written struct {
	p    api.Path
	want string
}

// kinds has one of each kind, and its text without brackets.
func kinds() []written {
	return []written{
		{eps, "()"},
		{fwd("knows"), "knows"},
		{back("likes"), "^likes"},
		{of(api.PSeq, a, b), "a/b"},
		{of(api.PAlt, a, b), "a|b"},
		{of(api.PStar, a), "a*"},
		{of(api.PPlus, a), "a+"},
		{of(api.POpt, a), "a?"},
		{rep(a, 1, 2), "a{1,2}"},
	}
}

// signs has what stands behind a Kid.
func signs(kid api.Path, text string) []written {
	return []written{
		{of(api.PStar, kid), text + "*"},
		{of(api.PPlus, kid), text + "+"},
		{of(api.POpt, kid), text + "?"},
		{rep(kid, 0, 1), text + "{0,1}"},
		{rep(kid, 0, -1), text + "{0,}"},
		{rep(kid, 2, 8), text + "{2,8}"},
		{rep(kid, 8, -1), text + "{8,}"},
	}
}

// inEach has p within each kind that it may be within, first, last or alone.
func inEach(p api.Path, text string) []written {
	seq, alt, sign := text, text, text
	switch p.Kind {
	case api.PAlt:
		seq, sign = "("+text+")", "("+text+")"
	case api.PSeq:
		sign = "(" + text + ")"
	}
	out := signs(p, sign)
	if p.Kind != api.PSeq {
		out = append(out, written{of(api.PSeq, p, c), seq + "/c"}, written{of(api.PSeq, c, p), "c/" + seq}, written{of(api.PSeq, p, p, p), seq + "/" + seq + "/" + seq})
	}
	if p.Kind != api.PAlt {
		out = append(out, written{of(api.PAlt, p, c), alt + "|c"}, written{of(api.PAlt, c, p), "c|" + alt}, written{of(api.PAlt, p, p, p), alt + "|" + alt + "|" + alt})
	}
	return out
}

// P7.3, P7.4, P7.5: each kind within each other kind within each other kind.
func TestTextOfEachWithinEach(t *testing.T) {
	texts := map[string]api.Path{}
	for _, one := range kinds() {
		isWritten(t, texts, one)
		for _, two := range inEach(one.p, one.want) {
			isWritten(t, texts, two)
			for _, three := range inEach(two.p, two.want) {
				isWritten(t, texts, three)
			}
		}
	}
	if len(texts) < 1000 {
		t.Errorf("only %d texts", len(texts))
	}
}

// isWritten wants the text, of no other path, and that it is read as the path; the empty text, if Check refuses it.
func isWritten(t *testing.T, texts map[string]api.Path, w written) {
	t.Helper()
	got := path.Text(w.p)
	if e := path.Check(w.p); e != api.OK {
		if got != "" || e != api.ErrBig {
			t.Errorf("Text of %v, which has fault %d: got %q", w.p, e, got)
		}
		if p, e := path.Parse(w.want); e != api.ErrSyntax || !isNone(p) {
			t.Errorf("Parse(%q): got %v, %d, want that it is too great", w.want, p, e)
		}
		return
	}
	if got != w.want {
		t.Errorf("Text of %v: got %q, want %q", w.p, got, w.want)
	}
	if other, found := texts[got]; found && !path.Same(other, w.p) {
		t.Errorf("Text of %v and of %v: both %q", w.p, other, got)
	}
	texts[got] = w.p
	readsBack(t, w.p)
}

// isNone tells whether p has its zero value.
func isNone(p api.Path) bool {
	return p.Kind == 0 && p.Label == "" && len(p.Kids) == 0 && p.Min == 0 && p.Max == 0
}

// P7.3
func TestText(t *testing.T) {
	cases := []written{
		{of(api.PSeq, of(api.PStar, fwd("knows")), back("likes")), "knows*/^likes"},
		{of(api.PAlt, a, of(api.PSeq, b, a), eps), "a|b/a|()"},
		{of(api.PSeq, of(api.PAlt, a, b), a), "(a|b)/a"},
		{of(api.PAlt, of(api.PSeq, a, of(api.PAlt, b, a)), b), "a/(b|a)|b"},
		{of(api.PStar, of(api.PAlt, of(api.PSeq, a, b), c)), "(a/b|c)*"},
		{of(api.PStar, of(api.PSeq, of(api.PAlt, a, b), c)), "((a|b)/c)*"},
		{of(api.PStar, of(api.PStar, of(api.PSeq, a, b))), "(a/b)**"},
		{of(api.POpt, of(api.PPlus, rep(of(api.PAlt, a, b), 0, 1))), "(a|b){0,1}+?"},
		{of(api.PAlt, of(api.PStar, of(api.PAlt, a, b)), c), "(a|b)*|c"},
		{of(api.PSeq, of(api.POpt, of(api.PSeq, a, b)), c), "(a/b)?/c"},
		{of(api.PSeq, eps, eps), "()/()"},
		{of(api.PAlt, eps, eps), "()|()"},
		{of(api.PStar, back("x y")), "^<x y>*"},
		{of(api.PSeq, fwd("|"), back("*"), fwd("/")), "<|>/^<*>/</>"},
		{of(api.PAlt, fwd("("), fwd(")"), back("()")), "<(>|<)>|^<()>"},
		{rep(fwd("{1,2}"), 1, 2), "<{1,2}>{1,2}"},
		{fwd("\xc3\xa9"), `<\c3\a9>`},
		{fwd(strings.Repeat("<", 20)), "<" + strings.Repeat(`\3c`, 20) + ">"},
		{fwd("007"), "007"},
		{hung(19, api.PStar, a), "a" + strings.Repeat("*", 19)},
		{wide(api.PSeq, 59, a), strings.Repeat("a/", 58) + "a"},
		{wide(api.PAlt, 59, back("b")), strings.Repeat("^b|", 58) + "^b"},
		{api.Path{Kind: api.PEps, Label: "x", Min: -3, Max: 99}, "()"},
		{api.Path{Kind: api.PBack, Label: "x", Min: -3, Max: 99}, "^x"},
		{api.Path{Kind: api.POpt, Label: "x", Min: -3, Max: 99, Kids: []api.Path{a}}, "a?"},
		{api.Path{Kind: api.PSeq, Label: "", Min: -3, Max: 99, Kids: []api.Path{a, b}}, "a/b"},
		{api.Path{Kind: api.PRep, Label: "x", Min: 3, Max: -1, Kids: []api.Path{a}}, "a{3,}"},
	}
	for _, x := range cases {
		isWritten(t, map[string]api.Path{}, x)
	}
	isWritten(t, map[string]api.Path{}, written{zigzag(20), zigzagText(20)})
	for least := range 9 {
		isWritten(t, map[string]api.Path{}, written{rep(a, least, -1), fmt.Sprintf("a{%d,}", least)})
		for most := max(least, 1); most <= 8; most++ {
			isWritten(t, map[string]api.Path{}, written{rep(a, least, most), fmt.Sprintf("a{%d,%d}", least, most)})
		}
	}
}

// zigzagText is the text of zigzag.
func zigzagText(deep int) string {
	s := "a"
	for i := range deep - 1 {
		if i > 1 && i%2 == 0 {
			s = "(" + s + ")"
		}
		s += "/|"[i%2:i%2+1] + "b"
	}
	return s
}

// P7.3
func TestTextOfWhatCheckRefuses(t *testing.T) {
	refused := []api.Path{
		{},
		{Kind: 10},
		{Kind: -1, Kids: []api.Path{a, b}},
		fwd(""),
		back(strings.Repeat("x", 21)),
		of(api.PEps, a),
		of(api.PFwd),
		of(api.PSeq),
		of(api.PSeq, a),
		of(api.PAlt, a),
		of(api.PSeq, a, of(api.PSeq, a, b)),
		of(api.PAlt, of(api.PAlt, a, b), a),
		of(api.PStar),
		of(api.PPlus, a, b),
		of(api.POpt, fwd("")),
		of(api.PRep),
		rep(a, 0, 0),
		rep(a, -1, 1),
		rep(a, 2, 1),
		rep(a, 0, 9),
		rep(a, 9, -1),
		rep(a, 0, -2),
		of(api.PAlt, a, b, api.Path{}),
		hung(20, api.PStar, a),
		zigzag(21),
		wide(api.PSeq, 60, a),
		hung(5, api.PPlus, a),
		rep(rep(a, 8, 8), 0, 6),
		hung(1_000_000, api.PStar, a),
		endless(api.PSeq),
	}
	for i, p := range refused {
		if got := path.Text(p); got != "" {
			t.Errorf("Text of refused path %d: got %q", i, got)
		}
	}
}
