package path

import (
	"strconv"
	"strings"

	"tansy/api"
)

// How strongly a path binds, and how strongly its place asks it to.
const (
	bindsAlt = 1 + iota
	bindsSeq
	bindsMost
)

const hexDigits = "0123456789abcdef"

// Name writes a name.
func Name(s string) string {
	if isWord(s) {
		return strings.Clone(s)
	}
	b := []byte{'<'}
	for i := range len(s) {
		b = appendByte(b, s[i])
	}
	return string(append(b, '>'))
}

// isWord tells whether a name needs no `<` and `>` about it.
func isWord(s string) bool {
	for i := range len(s) {
		if !isWordByte(s[i]) {
			return false
		}
	}
	return s != ""
}

// isWordByte tells whether a byte may stand in a word.
func isWordByte(c byte) bool {
	return 'a' <= c && c <= 'z' || 'A' <= c && c <= 'Z' || isDigit(c) || c == '_'
}

// isDigit tells whether a byte is a decimal digit.
func isDigit(c byte) bool { return '0' <= c && c <= '9' }

// appendByte writes a byte of a name between `<` and `>`.
func appendByte(b []byte, c byte) []byte {
	if c < 32 || c > 126 || c == '<' || c == '>' || c == '\\' {
		return append(b, '\\', hexDigits[c>>4], hexDigits[c&15])
	}
	return append(b, c)
}

// Text writes one.
func Text(p api.Path) string {
	if Check(p) != api.OK {
		return ""
	}
	return bare(p)
}

// bare is the text of one that may be, without brackets about it.
func bare(p api.Path) string {
	switch p.Kind {
	case api.PFwd:
		return Name(p.Label)
	case api.PBack:
		return "^" + Name(p.Label)
	case api.PAlt:
		return joined(p.Kids, "|", bindsAlt)
	case api.PSeq:
		return joined(p.Kids, "/", bindsSeq)
	case api.PStar:
		return within(p.Kids[0], bindsMost) + "*"
	case api.PPlus:
		return within(p.Kids[0], bindsMost) + "+"
	case api.POpt:
		return within(p.Kids[0], bindsMost) + "?"
	case api.PRep:
		return within(p.Kids[0], bindsMost) + bounds(p.Min, p.Max)
	}
	return "()"
}

// within is the text of a Kid whose place asks it to bind at least so strongly.
func within(p api.Path, least int) string {
	if binding(p.Kind) < least {
		return "(" + bare(p) + ")"
	}
	return bare(p)
}

// binding is how strongly a kind binds.
func binding(kind int) int {
	switch kind {
	case api.PAlt:
		return bindsAlt
	case api.PSeq:
		return bindsSeq
	}
	return bindsMost
}

// joined is the Kids with a sign between.
func joined(kids []api.Path, sign string, least int) string {
	texts := make([]string, len(kids))
	for i, k := range kids {
		texts[i] = within(k, least)
	}
	return strings.Join(texts, sign)
}

// bounds writes those of a PRep.
func bounds(least, most int) string {
	s := "{" + strconv.Itoa(least) + ","
	if most != -1 {
		s += strconv.Itoa(most)
	}
	return s + "}"
}
