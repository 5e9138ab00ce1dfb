package rt_test

import (
	"fmt"
	"slices"
	"testing"
	"unicode/utf8"

	"postern/emit"
)

// spot: a place of a text.
type spot struct {
	text  string
	place int
}

// alone: texts, at their first places.
func alone(texts ...string) []spot {
	var spots []spot
	for _, s := range texts {
		spots = append(spots, spot{s, 0})
	}
	return spots
}

// wantRunes at places, as many of them in one program as there are variables for.
func wantRunes(t *testing.T, spots []spot) {
	t.Helper()
	for some := range slices.Chunk(spots, 500) {
		var data []int
		for _, s := range some {
			data = append(data, wordsOf(s.text)...)
		}
		wantInts(t, fmt.Sprintf("texts from %q on", some[0].text), data, func(m *emit.Maker) []int {
			var want []int
			address := 0
			for _, s := range some {
				show(m, call(m, "_rune", 2, address, len(s.text), s.place)...)
				address += len(s.text)
				r, long := utf8.DecodeRuneInString(s.text[s.place:])
				want = append(want, int(r), long)
			}
			return want
		})
	}
}

// TestRunesByBytes: each one byte, and each two.
func TestRunesByBytes(t *testing.T) {
	var texts []string
	for a := range 256 {
		texts = append(texts, string([]byte{byte(a)}))
		for b := range 256 {
			texts = append(texts, string([]byte{byte(a), byte(b)}))
		}
	}
	wantRunes(t, alone(texts...))
}

// laters: bytes behind first ones, at the bounds of what they may be.
var laters = []byte{0, 0x41, 0x7f, 0x80, 0x8f, 0x90, 0x9f, 0xa0, 0xbf, 0xc0, 0xff}

func TestRunesOfThree(t *testing.T) {
	var texts []string
	for a := 0xbf; a < 256; a++ {
		for _, b := range laters {
			for _, c := range laters {
				texts = append(texts, string([]byte{byte(a), b, c}))
			}
		}
	}
	wantRunes(t, alone(texts...))
}

func TestRunesOfFour(t *testing.T) {
	var texts []string
	for _, a := range []byte{0xbf, 0xc0, 0xc1, 0xdf, 0xe0, 0xed, 0xef, 0xf0, 0xf1, 0xf3, 0xf4, 0xf5, 0xf7, 0xf8, 0xfb, 0xfc, 0xfe, 0xff} {
		for _, b := range laters {
			for _, c := range laters {
				for _, e := range laters {
					texts = append(texts, string([]byte{a, b, c, e}))
				}
			}
		}
	}
	wantRunes(t, alone(texts...))
}

// TestRunes at the bounds of each length, of surrogates, of all; and some between.
func TestRunes(t *testing.T) {
	var texts []string
	for _, n := range []rune{0, 1, 0x7f, 0x80, 0x7ff, 0x800, 0xfff, 0x1000, 0xd7ff, 0xe000, 0xfffd, 0xfffe, 0xffff, 0x10000, 0xfffff, 0x100000, 0x10ffff} {
		texts = append(texts, string(n))
	}
	for n := rune(0); n <= utf8.MaxRune; n += 211 {
		if utf8.ValidRune(n) {
			texts = append(texts, string(n))
		}
	}
	wantRunes(t, alone(texts...))
}

// TestRunesThatEnd: of a rune that ends too early one byte is told, though the bytes that it lacks stand behind the text, or none do.
func TestRunesThatEnd(t *testing.T) {
	for _, r := range []string{"é", "日", "\U0001f600", "\U0010ffff"} {
		for long := 1; long < len(r); long++ {
			for _, data := range [][]int{wordsOf(r), wordsOf(r[:long])} {
				wantInts(t, fmt.Sprintf("%q, %d", r, long), data, func(m *emit.Maker) []int {
					show(m, call(m, "_rune", 2, 0, long, 0)...)
					printHeap(m, len(data))
					return slices.Concat([]int{65533, 1}, heapLines(data))
				})
			}
		}
	}
}

// TestRunesInTexts: at each place of longer texts, some that stand behind others.
func TestRunesInTexts(t *testing.T) {
	d := die(5)
	parts := []string{"a", "\x00", "é", "日", "\U0001f600", "\ufffd", "\xff", "\x80", "\xe6\x97", "\xf0\x9f\x98", "\xed\xa0\x80", "\xed\xbf\xbf", "\xc0\x80", "\xe0\x9f\xbf", "\xf0\x8f\xbf\xbf", "\xf4\x90\x80\x80", "\xf8\x88\x80\x80\x80"}
	var spots []spot
	for range 300 {
		s := ""
		for range 1 + d.n(6) {
			s += parts[d.n(len(parts))]
		}
		for place := range s {
			spots = append(spots, spot{s, place})
		}
		spots = append(spots, spot{s, d.n(len(s))})
	}
	wantRunes(t, spots)
}
