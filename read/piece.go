package read

import (
	"strings"

	"postern/api"
	"postern/word"
)

// Kinds of pieces.
const (
	end     = iota // of the source
	name           // s
	keyword        // s
	number         // n
	text           // s: what it stands for
	mark           // s
)

// piece of a source, and where it begins.
type piece struct {
	kind int
	at   int
	n    int
	s    string
}

func (p piece) is(kind int, s string) bool { return p.kind == kind && p.s == s }

// marks: those of two bytes come first, as they win over those of one.
var marks = [...]string{
	":=", "==", "!=", "<=", ">=", "&&", "||",
	"(", ")", "{", "}", "[", "]", ",", ":", "=", "<", ">", "+", "-", "*", "/", "%", "!",
}

// cut a source into pieces, with its end behind them; else the place of what is wrong.
func cut(s string) ([]piece, int, api.Errno) {
	var pieces []piece
	for i := 0; i < len(s); {
		if isBlank(s[i]) {
			i++
			continue
		}
		p, long, errno := first(s[i:])
		if errno != api.OK {
			return nil, i, errno
		}
		p.at = i
		pieces = append(pieces, p)
		i += long
	}
	return append(pieces, piece{kind: end, at: len(s)}), 0, api.OK
}

// first piece of what is left of a source (at least a byte, and that no blank), and how many bytes it has.
func first(s string) (piece, int, api.Errno) {
	if long := word.Long(s); long > 0 {
		return wordPiece(s[:long])
	}
	switch {
	case isDigit(s[0]):
		return cutNumber(s)
	case s[0] == '"':
		return cutText(s)
	}
	for _, m := range marks {
		if strings.HasPrefix(s, m) {
			return piece{kind: mark, s: m}, len(m), api.OK
		}
	}
	return piece{}, 0, api.ErrForm
}

func wordPiece(s string) (piece, int, api.Errno) {
	if len(s) > api.MaxName {
		return piece{}, 0, api.ErrSize
	}
	p := piece{kind: name, s: strings.Clone(s)}
	if word.IsKeyword(s) {
		p.kind = keyword
	}
	return p, len(s), api.OK
}

func cutNumber(s string) (piece, int, api.Errno) {
	n, long := 0, 0
	for long < len(s) && isDigit(s[long]) {
		if n <= api.MaxNumber { // more digits can't bring it back, but could make it go round
			n = n*10 + int(s[long]-'0')
		}
		long++
	}
	if n > api.MaxNumber {
		return piece{}, 0, api.ErrRange
	}
	if s[0] == '0' && long > 1 {
		return piece{}, 0, api.ErrForm
	}
	return piece{kind: number, n: n}, long, api.OK
}

func cutText(s string) (piece, int, api.Errno) {
	var b []byte
	for i := 1; i < len(s); i++ {
		switch s[i] {
		case '"':
			return piece{kind: text, s: string(b)}, i + 1, api.OK
		case '\n':
			return piece{}, 0, api.ErrForm
		case '\\':
			i++
			c, ok := escaped(s[i:])
			if !ok {
				return piece{}, 0, api.ErrForm
			}
			b = append(b, c)
		default:
			b = append(b, s[i])
		}
	}
	return piece{}, 0, api.ErrShort
}

// escaped: what a backslash ahead of s stands for; at the end of a source it stands for nothing.
func escaped(s string) (byte, bool) {
	if s == "" {
		return 0, false
	}
	switch s[0] {
	case '"', '\\':
		return s[0], true
	case 'n':
		return '\n', true
	}
	return 0, false
}

func isBlank(c byte) bool { return c == ' ' || c == '\t' || c == '\n' }

func isDigit(c byte) bool { return '0' <= c && c <= '9' }
