package path

import (
	"strconv"
	"strings"

	"tansy/api"
	"tansy/bail"
)

// maxText is how long a text that is read may be.
const maxText = 4000

// Parse reads one.
func Parse(s string) (api.Path, api.Errno) {
	if len(s) > maxText {
		return api.Path{}, api.ErrBig
	}
	var p api.Path
	e, _ := bail.Catch(func() { p = read(s) })
	return p, e
}

// read is the path whose Text s is; it leaves, if there is none. The parser takes more than there are texts; what it took otherwise than it is written, and what it left over, the path's own text tells.
func read(s string) api.Path {
	r := &parser{text: s}
	p := r.alt()
	if Text(p) != s {
		r.fail()
	}
	return p
}

// parser goes through a text.
type parser struct {
	text string
	at   int
}

// fail leaves from wherever the parser stands.
func (r *parser) fail() { bail.Out(api.ErrSyntax, r.at) }

// take goes past a byte, if it comes next.
func (r *parser) take(c byte) bool {
	if r.at == len(r.text) || r.text[r.at] != c {
		return false
	}
	r.at++
	return true
}

// want goes past a byte that must come next.
func (r *parser) want(c byte) {
	if !r.take(c) {
		r.fail()
	}
}

// next goes past the next byte, whatever it is.
func (r *parser) next() byte {
	if r.at == len(r.text) {
		r.fail()
	}
	r.at++
	return r.text[r.at-1]
}

// run goes past all bytes that come next and are of a kind.
func (r *parser) run(is func(c byte) bool) string {
	from := r.at
	for r.at < len(r.text) && is(r.text[r.at]) {
		r.at++
	}
	return r.text[from:r.at]
}

func (r *parser) alt() api.Path { return r.list(api.PAlt, '|', r.seq) }

func (r *parser) seq() api.Path { return r.list(api.PSeq, '/', r.signed) }

// list reads one or more with a sign between; one alone is itself.
func (r *parser) list(kind int, sign byte, one func() api.Path) api.Path {
	kids := []api.Path{one()}
	for r.take(sign) {
		kids = append(kids, one())
	}
	if len(kids) == 1 {
		return kids[0]
	}
	return api.Path{Kind: kind, Kids: kids}
}

// signed reads one with any signs behind it that say how often.
func (r *parser) signed() api.Path {
	p := r.single()
	for {
		switch {
		case r.take('*'):
			p = over(api.PStar, p)
		case r.take('+'):
			p = over(api.PPlus, p)
		case r.take('?'):
			p = over(api.POpt, p)
		case r.take('{'):
			p = over(api.PRep, p)
			p.Min, p.Max = r.bounds()
		default:
			return p
		}
	}
}

// over has one Kid.
func over(kind int, kid api.Path) api.Path {
	return api.Path{Kind: kind, Kids: []api.Path{kid}}
}

// bounds reads those of a PRep, behind its `{`.
func (r *parser) bounds() (least, most int) {
	least = r.number()
	r.want(',')
	if r.take('}') {
		return least, -1
	}
	most = r.number()
	r.want('}')
	return least, most
}

// number reads decimal digits.
func (r *parser) number() int {
	n, err := strconv.Atoi(r.run(isDigit))
	if err != nil {
		r.fail()
	}
	return n
}

// single reads an edge, the empty path, or what stands in brackets.
func (r *parser) single() api.Path {
	switch {
	case r.take('^'):
		return api.Path{Kind: api.PBack, Label: r.name()}
	case !r.take('('):
		return api.Path{Kind: api.PFwd, Label: r.name()}
	case r.take(')'):
		return api.Path{Kind: api.PEps}
	}
	p := r.alt()
	r.want(')')
	return p
}

// name reads one that Name wrote.
func (r *parser) name() string {
	if r.take('<') {
		return r.quoted()
	}
	word := r.run(isWordByte)
	if word == "" {
		r.fail()
	}
	return strings.Clone(word)
}

// quoted reads a name's bytes up to its `>`.
func (r *parser) quoted() string {
	var b []byte
	for !r.take('>') {
		c := r.next()
		if c == '\\' {
			c = r.hex()<<4 | r.hex()
		}
		b = append(b, c)
	}
	return string(b)
}

// hex reads a hex digit.
func (r *parser) hex() byte {
	d := strings.IndexByte(hexDigits, r.next())
	if d < 0 {
		r.fail()
	}
	return byte(d)
}
