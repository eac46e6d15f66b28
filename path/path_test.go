package path_test

import (
	"fmt"
	"math"
	"strings"
	"testing"

	"tansy/api"
	"tansy/path"
)

// fwd, back, of and rep keep the tables short.
func fwd(label string) api.Path { return api.Path{Kind: api.PFwd, Label: label} }

func back(label string) api.Path { return api.Path{Kind: api.PBack, Label: label} }

func of(kind int, kids ...api.Path) api.Path { return api.Path{Kind: kind, Kids: kids} }

func rep(kid api.Path, least, most int) api.Path {
	return api.Path{Kind: api.PRep, Kids: []api.Path{kid}, Min: least, Max: most}
}

// eps, a, b and c are what most paths are made of.
var (
	eps     = of(api.PEps)
	a, b, c = fwd("a"), fwd("b"), fwd("c")
)

// hung is p below n that have one Kid each.
func hung(n, kind int, p api.Path) api.Path {
	for range n {
		p = of(kind, p)
	}
	return p
}

// bound is PRep's of p.
func bound(n int, p api.Path, least, most int) api.Path {
	for range n {
		p = rep(p, least, most)
	}
	return p
}

// wide has n Kids, all p.
func wide(kind, n int, p api.Path) api.Path {
	out := api.Path{Kind: kind}
	for range n {
		out.Kids = append(out.Kids, p)
	}
	return out
}

// endless has itself within, and wide lists of Kids besides.
func endless(kind int) api.Path {
	kids := []api.Path{a, {Kind: kind}, {Kind: kind}}
	kids[1].Kids, kids[2].Kids = kids, kids
	return api.Path{Kind: kind, Kids: kids}
}

// zigzag is PSeq and PAlt within each other, deep levels of them.
func zigzag(deep int) api.Path {
	p := a
	for i := range deep - 1 {
		p = of(api.PSeq+i%2, p, b)
	}
	return p
}

// checks wants what Check tells.
func checks(t *testing.T, what string, p api.Path, want api.Errno) {
	t.Helper()
	if got := path.Check(p); got != want {
		t.Errorf("Check of %s: got %d, want %d", what, got, want)
	}
}

// P7.1
func TestCheckKids(t *testing.T) {
	least := map[int]int{api.PEps: 0, api.PFwd: 0, api.PBack: 0, api.PSeq: 2, api.PAlt: 2, api.PStar: 1, api.PPlus: 1, api.POpt: 1, api.PRep: 1}
	for kind := 1; kind <= api.PKinds; kind++ {
		for n := range 6 {
			p := wide(kind, n, b)
			p.Label, p.Min, p.Max = "x", 1, 2
			want := api.OK
			if n < least[kind] || n > least[kind] && least[kind] < 2 {
				want = api.ErrArg
			}
			checks(t, fmt.Sprint("kind ", kind, " with Kids ", n), p, want)
			p.Kids = append([]api.Path{}, p.Kids...)
			checks(t, fmt.Sprint("kind ", kind, " with Kids ", n, " in a list that is not nil"), p, want)
		}
	}
}

// P7.1
func TestCheckNoKind(t *testing.T) {
	for _, kind := range []int{0, -1, 10, 11, 256 + api.PEps, math.MinInt, math.MaxInt} {
		p := api.Path{Kind: kind, Label: "x", Min: 1, Max: 2}
		checks(t, fmt.Sprint("kind ", kind), p, api.ErrArg)
		for n := 1; n < 4; n++ {
			p.Kids = wide(api.PSeq, n, a).Kids
			checks(t, fmt.Sprint("kind ", kind, " with Kids ", n), p, api.ErrArg)
		}
		for _, outer := range []api.Path{of(api.PStar, p), of(api.PSeq, a, p), rep(p, 1, 1)} {
			checks(t, fmt.Sprint("kind ", kind, " within ", outer.Kind), outer, api.ErrArg)
		}
	}
}

// P7.1
func TestCheckCanonical(t *testing.T) {
	seq, alt := of(api.PSeq, a, b), of(api.PAlt, a, b)
	for _, one := range []api.Path{seq, alt} {
		other := api.PSeq + api.PAlt - one.Kind
		for _, kids := range [][]api.Path{{one, c}, {c, one}, {c, eps, one}, {one, one}} {
			checks(t, "one within its like", of(one.Kind, kids...), api.ErrArg)
			checks(t, "one within its like, within another", of(api.PStar, of(one.Kind, kids...)), api.ErrArg)
			checks(t, "one within the other", of(other, kids...), api.OK)
			checks(t, "one within the other within its like", of(one.Kind, c, of(other, kids...)), api.OK)
		}
		checks(t, "one below a star within its like", of(one.Kind, c, of(api.PStar, one)), api.OK)
		checks(t, "an empty one within its like", of(one.Kind, c, of(one.Kind)), api.ErrArg)
	}
	for _, outer := range []int{api.PStar, api.PPlus, api.POpt} {
		for _, inner := range []int{api.PStar, api.PPlus, api.POpt} {
			checks(t, "signs behind each other", of(outer, of(inner, a)), api.OK)
		}
	}
	checks(t, "bounds behind bounds", rep(rep(a, 1, 2), 1, 2), api.OK)
}

// P7.1
func TestCheckLabel(t *testing.T) {
	cases := []struct {
		label string
		want  api.Errno
	}{
		{"", api.ErrName},
		{"a", api.OK},
		{"\x00", api.OK},
		{"<|>*", api.OK},
		{strings.Repeat("x", 19), api.OK},
		{strings.Repeat("x", 20), api.OK},
		{strings.Repeat("x", 21), api.ErrName},
		{strings.Repeat("x", 5000), api.ErrName},
		{strings.Repeat("é", 10), api.OK},
		{strings.Repeat("é", 10) + "e", api.ErrName},
		{strings.Repeat("é", 11), api.ErrName},
		{strings.Repeat("\xff", 20), api.OK},
		{strings.Repeat("<", 20), api.OK},
	}
	for _, x := range cases {
		checks(t, fmt.Sprintf("the label %q", x.label), fwd(x.label), x.want)
		checks(t, fmt.Sprintf("the label %q, back", x.label), back(x.label), x.want)
		checks(t, fmt.Sprintf("the label %q, within", x.label), of(api.PSeq, a, of(api.POpt, back(x.label))), x.want)
		for _, p := range []api.Path{eps, of(api.PSeq, a, b), of(api.PAlt, a, b), of(api.PStar, a), of(api.PPlus, a), of(api.POpt, a), rep(a, 1, 2)} {
			p.Label = x.label
			checks(t, fmt.Sprintf("the label %q of kind %d", x.label, p.Kind), p, api.OK)
		}
	}
}

// P7.1
func TestCheckBounds(t *testing.T) {
	far := []int{math.MinInt, math.MinInt + 1, -1 << 40, 1 << 32, 1<<32 + 1, math.MaxInt - 1, math.MaxInt}
	for i := -4; i <= 12; i++ {
		far = append(far, i)
	}
	for _, least := range far {
		for _, most := range far {
			want := api.ErrArg
			if least >= 0 && least <= 8 && (most == -1 || most >= 1 && most >= least && most <= 8) {
				want = api.OK
			}
			what := fmt.Sprintf("{%d,%d}", least, most)
			checks(t, what, rep(a, least, most), want)
			checks(t, what+" within", of(api.PAlt, b, rep(a, least, most)), want)
			for _, p := range []api.Path{eps, a, of(api.PSeq, a, b), of(api.PAlt, a, b), of(api.PStar, a), of(api.PPlus, a), of(api.POpt, a)} {
				p.Min, p.Max = least, most
				checks(t, what+" of another kind", p, api.OK)
			}
		}
	}
}

// P7.1
func TestCheckDeepAndSize(t *testing.T) {
	cases := []struct {
		what string
		p    api.Path
		want api.Errno
	}{
		{"20 deep", hung(19, api.PStar, a), api.OK},
		{"21 deep", hung(20, api.PStar, a), api.ErrDeep},
		{"20 deep to and fro", zigzag(20), api.OK},
		{"21 deep to and fro", zigzag(21), api.ErrDeep},
		{"20 deep at the last Kid", of(api.PSeq, a, b, hung(18, api.PStar, a)), api.OK},
		{"21 deep at the last Kid", of(api.PSeq, a, b, hung(19, api.PStar, a)), api.ErrDeep},
		{"21 deep at the first Kid", of(api.PSeq, hung(20, api.PStar, a), b), api.ErrDeep},
		{"40 deep", hung(39, api.PStar, a), api.ErrDeep},
		{"a million deep", hung(1_000_000, api.PStar, a), api.ErrDeep},
		{"endless", endless(api.PSeq), api.ErrDeep},
		{"endless, of no kind", endless(0), api.ErrDeep},
		{"so deep where no Kids may be", api.Path{Kind: api.PEps, Kids: []api.Path{hung(20, api.PStar, a)}}, api.ErrDeep},
		{"60 great", wide(api.PSeq, 59, a), api.OK},
		{"61 great", wide(api.PSeq, 60, a), api.ErrBig},
		{"60 great, the other", wide(api.PAlt, 59, back("a")), api.OK},
		{"61 great, the other", wide(api.PAlt, 60, eps), api.ErrBig},
		{"PPlus, 46", hung(4, api.PPlus, a), api.OK},
		{"PPlus, 94", hung(5, api.PPlus, a), api.ErrBig},
		{"PPlus, 60", of(api.PPlus, wide(api.PAlt, 28, a)), api.OK},
		{"PPlus, 62", of(api.PPlus, wide(api.PAlt, 29, a)), api.ErrBig},
		{"POpt, 60", of(api.POpt, wide(api.PSeq, 57, a)), api.OK},
		{"POpt, 61", of(api.POpt, wide(api.PSeq, 58, a)), api.ErrBig},
		{"PStar, 60", of(api.PStar, wide(api.PSeq, 58, a)), api.OK},
		{"PStar, 61", of(api.PStar, wide(api.PSeq, 59, a)), api.ErrBig},
		{"PRep, 59", rep(wide(api.PSeq, 6, a), 0, 8), api.OK},
		{"PRep, 67", rep(wide(api.PSeq, 7, a), 0, 8), api.ErrBig},
		{"PRep, 60", rep(wide(api.PSeq, 18, a), 2, -1), api.OK},
		{"PRep, 63", rep(wide(api.PSeq, 19, a), 2, -1), api.ErrBig},
		{"PRep without an end, 57", rep(wide(api.PSeq, 5, a), 8, -1), api.OK},
		{"PRep without an end, 66", rep(wide(api.PSeq, 6, a), 8, -1), api.ErrBig},
		{"both of 60", of(api.PSeq, wide(api.PAlt, 29, a), wide(api.PAlt, 28, a)), api.OK},
		{"both of 61", of(api.PSeq, wide(api.PAlt, 29, a), wide(api.PAlt, 29, a)), api.ErrBig},
		{"so great and 20 deep", of(api.PSeq, hung(18, api.PStar, a), wide(api.PAlt, 39, a)), api.OK},
		{"too great and 20 deep", of(api.PSeq, hung(18, api.PStar, a), wide(api.PAlt, 40, a)), api.ErrBig},
	}
	for _, x := range cases {
		checks(t, x.what, x.p, x.want)
	}
}

// P7.1: which of more than one fault is told.
func TestCheckFirstFault(t *testing.T) {
	noName, noKind, noRep := fwd(""), api.Path{}, rep(a, 9, 9)
	few, twice := of(api.PSeq, a), of(api.PSeq, a, of(api.PSeq, a, a))
	big := wide(api.PAlt, 70, a)
	cases := []struct {
		what string
		p    api.Path
		want api.Errno
	}{
		{"too deep and of no kind", of(0, hung(20, 0, noName)), api.ErrDeep},
		{"too deep behind no name", of(api.PSeq, noName, hung(20, api.PStar, a)), api.ErrDeep},
		{"too deep and too great", of(api.PSeq, big, hung(20, api.PPlus, a)), api.ErrDeep},
		{"too deep and too few", of(api.PSeq, hung(20, api.PPlus, a)), api.ErrDeep},
		{"too deep, too many Kids, no name", api.Path{Kind: api.PFwd, Kids: []api.Path{hung(20, api.PStar, a)}}, api.ErrDeep},
		{"no name and no kind", of(api.PAlt, noName, noKind), api.ErrName},
		{"no kind and no name", of(api.PAlt, noKind, noName), api.ErrArg},
		{"no name below, then no kind", of(api.PAlt, of(api.PStar, noName), noKind), api.ErrName},
		{"no kind below, then no name", of(api.PAlt, of(api.PStar, noKind), noName), api.ErrArg},
		{"no name below, then too few", of(api.PAlt, hung(9, api.POpt, noName), few), api.ErrName},
		{"no name, then no bounds", of(api.PSeq, noName, noRep), api.ErrName},
		{"no bounds, then no name", of(api.PSeq, noRep, noName), api.ErrArg},
		{"no name, then not canonical below", of(api.PAlt, noName, twice), api.ErrName},
		{"not canonical below, then no name", of(api.PAlt, twice, noName), api.ErrArg},
		{"not canonical, the first Kid no name", of(api.PSeq, noName, few), api.ErrArg},
		{"not canonical, and that Kid a fault", of(api.PSeq, fwd(strings.Repeat("x", 21)), of(api.PSeq, noName)), api.ErrArg},
		{"too few, the Kid no name", of(api.PSeq, noName), api.ErrArg},
		{"too many, the Kids no names", of(api.PStar, noName, noName), api.ErrArg},
		{"no kind, the Kid no name", of(0, noName), api.ErrArg},
		{"no name, and Kids", api.Path{Kind: api.PFwd, Kids: []api.Path{a}}, api.ErrArg},
		{"a name too long, and Kids", api.Path{Kind: api.PBack, Label: strings.Repeat("x", 21), Kids: []api.Path{noName}}, api.ErrArg},
		{"no bounds, the Kid no name", rep(noName, 2, 1), api.ErrArg},
		{"bounds, the Kid no name", rep(noName, 1, 2), api.ErrName},
		{"no bounds, two Kids, no names", api.Path{Kind: api.PRep, Min: 9, Max: 9, Kids: []api.Path{noName, noName}}, api.ErrArg},
		{"too great and no name at the end", of(api.PSeq, big, noName), api.ErrName},
		{"too great and no kind at the end", of(api.PSeq, big, noKind), api.ErrArg},
		{"too great and no bounds at the end", of(api.PSeq, big, noRep), api.ErrArg},
		{"too great by bounds that may not be", rep(big, 9, 9), api.ErrArg},
		{"too great by bounds, no name", rep(rep(noName, 8, 8), 8, 8), api.ErrName},
		{"too great alone", rep(rep(a, 8, 8), 8, 8), api.ErrBig},
		{"two of no name", of(api.PSeq, noName, fwd(strings.Repeat("x", 21))), api.ErrName},
	}
	for _, x := range cases {
		checks(t, x.what, x.p, x.want)
	}
}

// P7.1: every raw path of few nodes against the document's words, one after the other.
func TestCheckOfAllSmallOnes(t *testing.T) {
	for _, p := range raw(3) {
		checks(t, fmt.Sprint(p), p, plainCheck(p))
	}
}

// raw has many paths of at most so many levels, right and wrong ones.
func raw(deep int) []api.Path {
	if deep == 0 {
		return nil
	}
	kids := some(raw(deep - 1))
	var out []api.Path
	for kind := 0; kind <= api.PKinds+1; kind++ {
		for _, bare := range []api.Path{{Label: "a"}, {Max: 2}, {Label: strings.Repeat("x", 21), Min: 3, Max: 2}, {Label: "<", Min: 1, Max: -1}} {
			bare.Kind = kind
			out = append(out, bare)
			for _, k := range kids {
				one := bare
				one.Kids = []api.Path{k}
				out = append(out, one)
				for _, l := range kids {
					two := bare
					two.Kids = []api.Path{k, l}
					out = append(out, two)
				}
			}
		}
	}
	return out
}

// some is at most so many of l, right and wrong ones, from all over it.
func some(l []api.Path) []api.Path {
	var parts [2][]api.Path
	for _, p := range l {
		if plainCheck(p) == api.OK {
			parts[0] = append(parts[0], p)
		} else {
			parts[1] = append(parts[1], p)
		}
	}
	var out []api.Path
	for _, part := range parts {
		for i := 0; i < len(part); i += 1 + len(part)/20 {
			out = append(out, part[i])
		}
	}
	return out
}

// plainCheck is P7.1 for paths of three levels and two Kids at most: none too deep, and none too great by its Kids alone.
func plainCheck(p api.Path) api.Errno {
	n := len(p.Kids)
	switch {
	case p.Kind < 1 || p.Kind > 9:
		return api.ErrArg
	case p.Kind <= 3 && n != 0, (p.Kind == 4 || p.Kind == 5) && n != 2, p.Kind >= 6 && n != 1:
		return api.ErrArg
	case (p.Kind == 4 || p.Kind == 5) && (p.Kids[0].Kind == p.Kind || p.Kids[1].Kind == p.Kind):
		return api.ErrArg
	case (p.Kind == 2 || p.Kind == 3) && p.Label != "a" && p.Label != "<":
		return api.ErrName
	case p.Kind == 9 && p.Max != -1 && (p.Min > p.Max || p.Max < 1):
		return api.ErrArg
	}
	for _, k := range p.Kids {
		if e := plainCheck(k); e != api.OK {
			return e
		}
	}
	return api.OK
}

// P7.1
func TestDeep(t *testing.T) {
	cases := []struct {
		what string
		p    api.Path
		want int
	}{
		{"nothing", api.Path{}, 1},
		{"an empty list of Kids", api.Path{Kind: api.PSeq, Kids: []api.Path{}}, 1},
		{"a", a, 1},
		{"a star", of(api.PStar, a), 2},
		{"the first deepest", of(api.PSeq, hung(3, api.PStar, a), b, of(api.POpt, c)), 5},
		{"the last deepest", of(api.PSeq, of(api.POpt, c), b, hung(3, api.PStar, a)), 5},
		{"the middle deepest", of(api.PSeq, a, hung(3, api.PStar, a), b), 5},
		{"of no kind", of(0, of(-1, of(10, a))), 4},
		{"Kids where none may be", api.Path{Kind: api.PFwd, Kids: []api.Path{of(api.PEps, a)}}, 3},
		{"20", hung(19, api.PStar, a), 20},
		{"21", hung(20, api.PStar, a), 21},
		{"39", hung(38, api.PRep, a), 39},
		{"40", hung(39, api.PStar, a), 40},
		{"41", hung(40, api.PStar, a), 41},
		{"42", hung(41, api.PStar, a), 41},
		{"a million", hung(1_000_000, api.PStar, a), 41},
		{"40 by the last Kid", of(api.PAlt, a, hung(38, api.PStar, a)), 40},
		{"41 by the last Kid", of(api.PAlt, a, hung(39, api.PStar, a)), 41},
		{"42 by the last Kid", of(api.PAlt, a, hung(40, api.PStar, a)), 41},
		{"41 by the first Kid", of(api.PAlt, hung(39, api.PStar, a), a), 41},
		{"40 of no kind", hung(39, 0, a), 40},
		{"42 of no kind", hung(41, 0, a), 41},
		{"zigzag", zigzag(33), 33},
		{"many Kids", wide(api.PSeq, 100_000, of(api.PStar, a)), 3},
		{"endless", endless(api.PSeq), 41},
		{"endless, of no kind", endless(0), 41},
	}
	for _, x := range cases {
		if got := path.Deep(x.p); got != x.want {
			t.Errorf("Deep of %s: got %d, want %d", x.what, got, x.want)
		}
	}
}

// P7.1
func TestSize(t *testing.T) {
	const most = 1 << 40
	seq := of(api.PSeq, a, b) // 3
	repMany := api.Path{Kind: api.PRep, Min: 1, Max: 3, Kids: []api.Path{seq, a, seq}}
	cases := []struct {
		what string
		p    api.Path
		want int
	}{
		{"PEps", eps, 1},
		{"PFwd", a, 1},
		{"PBack", back("a"), 1},
		{"PFwd with a label that may not be", fwd(""), 1},
		{"PEps with Kids", of(api.PEps, a, a), 1},
		{"PFwd with Kids", of(api.PFwd, a, a), 1},
		{"PBack with Kids", of(api.PBack, hung(30, api.PPlus, a)), 1},
		{"PSeq", of(api.PSeq, a, b, c), 4},
		{"PAlt", of(api.PAlt, a, eps), 3},
		{"PSeq of no Kids", of(api.PSeq), 1},
		{"PAlt of one Kid", of(api.PAlt, seq), 4},
		{"PSeq within PSeq", of(api.PSeq, seq, seq), 7},
		{"PStar", of(api.PStar, seq), 4},
		{"PPlus", of(api.PPlus, seq), 8},
		{"POpt", of(api.POpt, seq), 5},
		{"PStar of none", of(api.PStar), 1},
		{"PPlus of none", of(api.PPlus), 2},
		{"POpt of none", of(api.POpt), 2},
		{"PStar of two", of(api.PStar, seq, a), 5},
		{"PPlus of two", of(api.PPlus, seq, a), 10},
		{"POpt of two", of(api.POpt, seq, a), 6},
		{"PRep", rep(seq, 0, 5), 18},
		{"PRep, Min not asked", rep(seq, 5, 5), 18},
		{"PRep, Min above Max", rep(seq, 9, 1), 6},
		{"PRep without an end", rep(seq, 0, -1), 6},
		{"PRep without an end, Min 4", rep(seq, 4, -1), 18},
		{"PRep without an end, Min -1", rep(seq, -1, -1), 6},
		{"PRep without an end, the least Min", rep(seq, math.MinInt, -1), 6},
		{"PRep, Max 0", rep(seq, 4, 0), 3},
		{"PRep, Max -2", rep(seq, 4, -2), 3},
		{"PRep, the least Max", rep(seq, 4, math.MinInt), 3},
		{"PRep, Min and Max -2", rep(seq, -2, -2), 3},
		{"PRep of none", api.Path{Kind: api.PRep, Min: 2, Max: 9}, 3},
		{"PRep of none, the greatest Max", api.Path{Kind: api.PRep, Max: math.MaxInt}, 3},
		{"PRep of none, the greatest Min", api.Path{Kind: api.PRep, Min: math.MaxInt, Max: -1}, 3},
		{"PRep of three", repMany, 24},
		{"of no kind", api.Path{}, 0},
		{"of no kind, with Kids", of(10, a, b), 0},
		{"of no kind within PSeq", of(api.PSeq, of(-1, a), a), 2},
		{"PRep of no kind, the greatest Max", rep(api.Path{}, 0, math.MaxInt), 3},
		{"PRep, the greatest Max", rep(a, 0, math.MaxInt), most},
		{"PRep, the greatest Min", rep(a, math.MaxInt, -1), most},
		{"PRep, Max 2^62", rep(seq, 0, 1<<62), most},
		{"PRep, Max 2^40 - 4", rep(a, 0, most-4), most - 1},
		{"PRep, Max 2^40 - 3", rep(a, 0, most-3), most},
		{"PRep, Max 2^40 - 2", rep(a, 0, most-2), most},
		{"PRep, Min 2^40 - 5", rep(a, most-5, -1), most - 1},
		{"PRep, Min 2^40 - 4", rep(a, most-4, -1), most},
		{"PRep, Max 0 of the greatest", rep(rep(a, 0, math.MaxInt), 7, 0), 3},
		{"PRep, Max 1 of the greatest", rep(rep(a, 0, math.MaxInt), 0, 1), most},
		{"PRep, the greatest of the greatest", rep(rep(a, 0, math.MaxInt), 0, math.MaxInt), most},
		{"PSeq of the greatest", wide(api.PSeq, 1000, rep(a, 0, math.MaxInt)), most},
		{"PStar of the greatest", of(api.PStar, rep(a, 0, math.MaxInt)), most},
		{"PPlus of the greatest", of(api.PPlus, rep(a, 0, math.MaxInt)), most},
		{"POpt of the greatest", of(api.POpt, rep(a, 0, math.MaxInt)), most},
		{"of no kind, of the greatest", of(0, rep(a, 0, math.MaxInt)), 0},
		{"PFwd of the greatest", of(api.PFwd, rep(a, 0, math.MaxInt)), 1},
		{"PStar of 2^40 - 2", of(api.PStar, rep(a, 0, most-5)), most - 1},
		{"PStar of 2^40 - 1", of(api.PStar, rep(a, 0, most-4)), most},
		{"POpt of 2^40 - 3", of(api.POpt, rep(a, 0, most-6)), most - 1},
		{"PPlus of 2^39 - 2", of(api.PPlus, rep(a, 0, most/2-5)), most - 2},
		{"PPlus of 2^39 - 1", of(api.PPlus, rep(a, 0, most/2-4)), most},
		{"PSeq of 2^39 - 1 twice", of(api.PSeq, rep(a, 0, most/2-4), rep(a, 0, most/2-4)), most - 1},
		{"PSeq of 2^39 and less", of(api.PSeq, rep(a, 0, most/2-4), rep(a, 0, most/2-3)), most},
		{"38 PPlus", hung(38, api.PPlus, a), 3<<38 - 2},
		{"39 PPlus", hung(39, api.PPlus, a), most},
		{"twenty bounds", bound(20, a, 2, 2), 4*(1<<20) - 3},
		{"40 deep", hung(39, api.PStar, a), 40},
		{"41 deep", hung(40, api.PStar, a), most},
		{"a million deep", hung(1_000_000, api.PStar, a), most},
		{"41 deep, of no kind", hung(40, 0, a), most},
		{"40 deep, of no kind", hung(39, 0, a), 0},
		{"41 deep, below Max 0", rep(hung(39, api.PStar, a), 0, 0), most},
		{"41 deep, below PEps", of(api.PEps, hung(39, api.PStar, a)), most},
		{"40 deep, below PEps", of(api.PEps, hung(38, api.PStar, a)), 1},
		{"41 deep at the last Kid", of(api.PSeq, a, hung(39, api.PStar, a)), most},
		{"endless", endless(api.PSeq), most},
		{"endless, of no kind", endless(0), most},
		{"endless, PEps", endless(api.PEps), most},
		{"many Kids", wide(api.PSeq, 100_000, of(api.PStar, a)), 200_001},
	}
	for _, x := range cases {
		if got := path.Size(x.p); got != x.want {
			t.Errorf("Size of %s: got %d, want %d", x.what, got, x.want)
		}
	}
}

// P7.1
func TestSame(t *testing.T) {
	star := of(api.PStar, a)
	cases := []struct {
		what string
		x, y api.Path
		want bool
	}{
		{"nothing", api.Path{}, api.Path{}, true},
		{"nil and empty Kids", api.Path{Kind: api.PEps}, api.Path{Kind: api.PEps, Kids: []api.Path{}}, true},
		{"kinds", a, back("a"), false},
		{"kinds that are none", of(0), of(-1), false},
		{"kind and none", eps, of(10), false},
		{"labels", a, b, false},
		{"labels back", back("a"), back("b"), false},
		{"labels that are long", fwd(strings.Repeat("x", 30)), fwd(strings.Repeat("x", 30)), true},
		{"labels, one the beginning", fwd("ab"), a, false},
		{"labels of other case", a, fwd("A"), false},
		{"no labels", fwd(""), fwd(""), true},
		{"PFwd's Min and Max", api.Path{Kind: api.PFwd, Label: "a", Min: 1, Max: 2}, a, true},
		{"PBack's Min and Max", api.Path{Kind: api.PBack, Label: "a", Min: 1, Max: 2}, back("a"), true},
		{"Min", rep(a, 1, 3), rep(a, 2, 3), false},
		{"Max", rep(a, 1, 2), rep(a, 1, 3), false},
		{"Max of none and no end", rep(a, 1, -1), rep(a, 1, 0), false},
		{"bounds", rep(a, 1, 3), rep(a, 1, 3), true},
		{"bounds that may not be", rep(a, math.MinInt, math.MaxInt), rep(a, math.MinInt, math.MaxInt), true},
		{"PRep's Label", api.Path{Kind: api.PRep, Label: "x", Kids: []api.Path{a}, Max: 1}, rep(a, 0, 1), true},
		{"too few Kids", of(api.PSeq, a, b), of(api.PSeq, a), false},
		{"too many Kids", of(api.PSeq, a, b), of(api.PSeq, a, b, c), false},
		{"no Kids", of(api.PSeq, a), of(api.PSeq), false},
		{"Kids in another order", of(api.PAlt, a, b), of(api.PAlt, b, a), false},
		{"the first Kid", of(api.PSeq, a, b), of(api.PSeq, c, b), false},
		{"the last Kid", of(api.PSeq, a, b), of(api.PSeq, a, c), false},
		{"a Kid's Kid", of(api.PStar, of(api.POpt, a)), of(api.PStar, of(api.POpt, b)), false},
		{"a Kid's Kind", of(api.PStar, of(api.POpt, a)), of(api.PStar, of(api.PPlus, a)), false},
		{"a Kid's bounds", of(api.PSeq, a, rep(a, 1, 2)), of(api.PSeq, a, rep(a, 1, 1)), false},
		{"a Kid that stands twice, and not", of(api.PSeq, star, star), of(api.PSeq, star, of(api.PStar, b)), false},
		{"a Kid that stands twice, first not", of(api.PSeq, star, star), of(api.PSeq, of(api.PStar, b), star), false},
		{"Kids of PFwd", of(api.PFwd, a), of(api.PFwd, a), true},
		{"other Kids of PFwd", of(api.PFwd, a), of(api.PFwd, b), false},
		{"more Kids of PEps", of(api.PEps, a), eps, false},
		{"other Kids of no kind", of(10, a), of(10, b), false},
		{"Labels of no kind", api.Path{Label: "x", Min: 1}, api.Path{Label: "y", Max: 1}, true},
		{"deep", hung(100, api.PStar, a), hung(100, api.PStar, a), true},
		{"deep, not as deep", hung(100, api.PStar, a), hung(99, api.PStar, a), false},
		{"deep, other at the end", hung(100, api.PStar, a), hung(100, api.PStar, b), false},
		{"wide", wide(api.PSeq, 100_000, star), wide(api.PSeq, 100_000, of(api.PStar, a)), true},
	}
	for kind := 0; kind <= api.PKinds+1; kind++ {
		x := api.Path{Kind: kind, Kids: []api.Path{a}, Label: "x", Min: 1, Max: 2}
		for field, y := range []api.Path{{Label: "y", Min: 1, Max: 2}, {Label: "x", Min: 2, Max: 2}, {Label: "x", Min: 1, Max: 3}} {
			y.Kind, y.Kids = kind, []api.Path{a}
			asked := field == 0 && (kind == api.PFwd || kind == api.PBack) || field > 0 && kind == api.PRep
			cases = append(cases, struct {
				what string
				x, y api.Path
				want bool
			}{fmt.Sprint("field ", field, " of kind ", kind), x, y, !asked})
		}
	}
	for _, x := range cases {
		if path.Same(x.x, x.y) != x.want || path.Same(x.y, x.x) != x.want {
			t.Errorf("Same, %s: want %v", x.what, x.want)
		}
		if !path.Same(x.x, x.x) || !path.Same(x.y, x.y) {
			t.Errorf("Same, %s: one is not the same as itself", x.what)
		}
	}
}

// P7.1: calls within each other would not bear it.
func TestSameOfVeryDeepOnes(t *testing.T) {
	const deep = 2_500_000
	if !path.Same(hung(deep, api.PStar, a), hung(deep, api.PStar, a)) {
		t.Errorf("Same of very deep ones: got false")
	}
}

// P7.1: lists of Kids that begin at one place are other ones, if they are not as long.
func TestSameOfListsThatShare(t *testing.T) {
	for _, stars := range []int{0, 50} {
		deep := hung(stars, api.PStar, a)
		pair := func(kids []api.Path) api.Path {
			short := api.Path{Kind: api.PAlt, Kids: kids[:1]}
			return of(api.PSeq, deep, short, api.Path{Kind: api.PAlt, Kids: kids}, short)
		}
		x, y, z := pair([]api.Path{a, b}), pair([]api.Path{a, c}), pair([]api.Path{c, b})
		apart := of(api.PSeq, hung(stars, api.PStar, a), of(api.PAlt, a), of(api.PAlt, a, b), of(api.PAlt, a))
		if !path.Same(x, apart) || !path.Same(apart, x) {
			t.Errorf("below %d stars: lists that share are not the same as ones that don't", stars)
		}
		star, other := of(api.PStar, a), of(api.PStar, b)
		for _, kids := range [][]api.Path{{deep, star, other}, {deep, other, star}} {
			twice, once := of(api.PSeq, deep, star, star), of(api.PSeq, kids...)
			if path.Same(twice, once) || path.Same(once, twice) {
				t.Errorf("below %d stars: a list that stands twice is the same as two unlike ones", stars)
			}
		}
		if path.Same(x, y) || path.Same(y, x) || path.Same(x, z) || path.Same(z, x) || path.Same(apart, y) || path.Same(apart, z) {
			t.Errorf("below %d stars: lists that share are the same as other ones", stars)
		}
	}
}

// P7.1: a list that has itself within is as long as it is, whatever it is held against.
func TestSameOfEndlessOnes(t *testing.T) {
	for _, kind := range []int{0, api.PEps, api.PSeq, api.PStar} {
		x, y := endless(kind), endless(kind)
		other := endless(kind)
		other.Kids[0] = b
		if !path.Same(x, y) || path.Same(x, other) || path.Same(other, x) {
			t.Errorf("endless ones of kind %d: got %v, %v, %v", kind, path.Same(x, y), path.Same(x, other), path.Same(other, x))
		}
		if cut := of(kind, a, of(kind), of(kind)); path.Same(x, cut) || path.Same(cut, x) {
			t.Errorf("an endless one of kind %d is the same as one with an end", kind)
		}
	}
}
