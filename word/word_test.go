package word_test

import (
	"strings"
	"testing"

	"postern/api"
	"postern/word"
)

const keywords = "func if else for range switch case default return print break continue delete true false len append slice map int bool string"

func TestLong(t *testing.T) {
	for s, want := range map[string]int{
		"": 0, "a": 1, "z9": 2, "a b": 1, "ab1(": 3, "if": 2, "if1x if": 4, "9a": 0, " a": 0, "A": 0, "aA": 1, "a_b": 1, "é": 0, "aé": 1,
		"`": 0, "{": 0, "a`": 1, "a{": 1, "a/": 1, "a:": 1, "a\x00": 1, "a\xff": 1, strings.Repeat("x", 5000): 5000,
	} {
		if got := word.Long(s); got != want {
			t.Errorf("%q: %d, want %d", s, got, want)
		}
	}
}

// P1.2: these are keywords, and no others.
func TestKeywords(t *testing.T) {
	for _, s := range strings.Fields(keywords) {
		if !word.IsKeyword(s) || word.IsName(s) {
			t.Errorf("%q", s)
		}
		for _, near := range []string{s + "x", "x" + s, s[1:], s + "1"} {
			if word.IsKeyword(near) {
				t.Errorf("%q", near)
			}
		}
	}
	for _, s := range []string{"", "main", "nil", "var", "type", "byte", "fun", "IF", "if ", "func if"} {
		if word.IsKeyword(s) {
			t.Errorf("%q", s)
		}
	}
}

func TestNames(t *testing.T) {
	for _, s := range []string{"a", "z", "main", "a1", "x0y9", "if1", "xif", strings.Repeat("n", api.MaxName)} {
		if !word.IsName(s) {
			t.Errorf("%q", s)
		}
	}
	for _, s := range []string{"", "1", "1a", "A", "aB", "a_b", "_", "a b", " a", "a ", "é", "aé", "a\x00", strings.Repeat("n", api.MaxName+1), strings.Repeat("n", 4000)} {
		if word.IsName(s) {
			t.Errorf("%q", s)
		}
	}
}
