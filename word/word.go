// Package word: which words there are, for the layers that cut sources into words or are handed names.
package word

import "postern/api"

var keywords = [...]string{
	"func", "if", "else", "for", "range", "switch", "case", "default", "return", "print", "break",
	"continue", "delete", "true", "false", "len", "append", "slice", "map", "int", "bool", "string",
}

// Long: how many bytes the word has with which s begins; 0: it begins with none.
func Long(s string) int {
	if s == "" || !isLetter(s[0]) {
		return 0
	}
	long := 1
	for long < len(s) && (isLetter(s[long]) || isDigit(s[long])) {
		long++
	}
	return long
}

// IsKeyword: a word that can't be a name, as the language has its own use for it.
func IsKeyword(s string) bool {
	for _, k := range keywords {
		if s == k {
			return true
		}
	}
	return false
}

// IsName: a word that is not too long, and no keyword.
func IsName(s string) bool {
	return s != "" && len(s) <= api.MaxName && Long(s) == len(s) && !IsKeyword(s)
}

func isLetter(c byte) bool { return 'a' <= c && c <= 'z' }

func isDigit(c byte) bool { return '0' <= c && c <= '9' }
