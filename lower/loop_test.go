package lower_test

import (
	"testing"
	"unicode/utf8"

	"postern/api"
	"postern/ir"
)

// P5.6: S and T of a number, which is evaluated once.
func TestRangeOfNumbers(t *testing.T) {
	says{
		"for i, j := range 3 { print(i * 10 + j) }":                             "0 11 22",
		"for i, j := range 0 { print(i) } for i, j := range -5 { print(i) }":    "",
		"for i, j := range say(2) { print(i) }":                                 "2 0 1",
		"n := 3 for i, j := range n { n = 1 print(i) } print(n)":                "0 1 2 1",
		"n := 2 for i, j := range n { n = n + 1 print(i) }":                     "0 1",
		"for i, j := range 3 { i = 7 j = 8 print(i + j) }":                      "15 15 15",
		"for i, j := range 4 { j = 9 print(i) i = i + 1 }":                      "0 1 2 3",
		"for i, j := range 2 { i := i + 5 j := \"x\" print(i) print(j) }":       "5 x 6 x",
		"i := 5 for i, j := range i - 3 { print(i) } print(i)":                  "0 1 5",
		"for i, j := range 2 { for i, k := range i + 1 { print(i) } print(i) }": "0 0 0 1 1",
		"x := 0 for i, j := range 1000 { x = x + j } print(x)":                  "499500",
		"for i, j := range 1099511627776 * 8388608 { print(i) }":                "",
	}.check(t)
	checkEnds(t, []ending{{"for i, j := range 1 / 0 { print(1) }", api.BadZero, ""}})
}

// P5.6: of a text S is the place, T the rune that is there.
func TestRangeOfTexts(t *testing.T) {
	says{
		`for i, r := range "abc" { print(i) print(r) }`:                          "0 97 1 98 2 99",
		`for i, r := range "" { print(i) }`:                                      "",
		`for i, r := range "aé日😀z" { print(i) print(r) }`:                        "0 97 1 233 3 26085 6 128512 10 122",
		`s := "ab" for i, r := range s { s = "xyz" print(r) } print(s)`:          "97 98 xyz",
		`s := "ab" for i, r := range s { s = s + "c" print(i) } print(s)`:        "0 1 abcc",
		`for i, r := range "ab" + "é" { i = i + 5 r = r + 1 print(i) print(r) }`: "5 98 6 99 7 234",
		`for i, r := range "abca" { if r == 97 { continue } print(i) }`:          "1 2",
		`s := "a" for s, r := range s { print(s) } print(s)`:                     "0 a",
	}.check(t)
	for _, s := range []string{"\xff", "a\x80b", "\xe6\x97", "\xe6\x97x", "\xc0\x80", "\xed\xa0\x80", "\xf4\x90\x80\x80", "é\xc3", "\xf0\x9f\x98", allBytes()} {
		show := doing(api.Print, two(two(variable("i"), "*", num(1<<30)), "+", variable("r")))
		fs := mainOf(api.Stmt{Kind: api.Range, S: "i", T: "r", Exprs: []api.Expr{text(s)}, Body: []api.Stmt{show}})
		var want []string
		for at := 0; at < len(s); {
			r, bytes := utf8.DecodeRuneInString(s[at:])
			want = append(want, itoa(at<<30+int(r)))
			at += bytes
		}
		r, errno := ir.Run(mustLower(t, s, fs), api.MaxHeap, api.MaxFuel)
		checkSame(t, s, r, api.Run{Lines: want, End: api.Done})
		checkSame(t, s, errno, api.OK)
	}
}

// P5.6: of a slice T is the word that is there then, up to the length that it had.
func TestRangeOfSlices(t *testing.T) {
	says{
		"for i, x := range slice(7, 8, 9) { print(i) print(x) }":                                  "0 7 1 8 2 9",
		"for i, x := range slice() { print(i) }":                                                  "",
		"l := slice(1, 2, 3) for i, x := range l { l[2] = 9 print(x) }":                           "1 2 9",
		"l := slice(1, 2, 3) for i, x := range l { x = 5 print(l[i]) }":                           "1 2 3",
		"l := slice(1, 2) for i, x := range l { l = append(l, x) print(x) } print(len(l))":        "1 2 4",
		"l := slice(1, 2) for i, x := range l { l = slice(5, 6, 7) print(x) } print(len(l))":      "1 2 3",
		"l := slice(1, 2) for i, x := range l { l = append(l, 8) l[1] = 9 print(x) } print(l[1])": "1 2 9",
		"l := append(slice(1), 2) for i, x := range l { l = append(l, 3) l[1] = 9 print(x) }":     "1 9",
		"l := slice(1, 2, 3) for i, x := range l { l = slice() print(x) i = 9 }":                  "1 2 3",
		"l := slice(4, 5) for i, x := range append(l, 6) { print(x) l[0] = 1 }":                   "4 5 6",
		"l := slice(2, 3) for l, x := range l { print(l) print(x) } print(len(l))":                "0 2 1 3 2",
	}.check(t)
}

// P5.6: of a map the entries that live then, those that came in the loop, too.
func TestRangeOfMaps(t *testing.T) {
	two := "m := map() m[5] = 50 m[3] = 30 "
	says{
		"for k, v := range map() { print(k) }":                                                          "",
		two + "for k, v := range m { print(k) print(v) }":                                               "5 50 3 30",
		two + "m[5] = 51 for k, v := range m { print(k) print(v) }":                                     "5 51 3 30",
		two + "delete(m, 5) for k, v := range m { print(k) }":                                           "3",
		two + "delete(m, 5) m[5] = 52 for k, v := range m { print(k) print(v) }":                        "3 30 5 52",
		two + "for k, v := range m { if k > 0 { m[k - 4] = v } print(k) }":                              "5 3 1 -1 -3",
		two + "for k, v := range m { m[3] = v + 1 print(v) }":                                           "50 51",
		two + "for k, v := range m { delete(m, 3) print(k) }":                                           "5",
		two + "for k, v := range m { delete(m, k) print(k) } print(len(m))":                             "5 3 0",
		two + "for k, v := range m { delete(m, 5) if v < 33 { m[5] = v + 1 } print(v) }":                "50 30 31 32 33",
		two + "for k, v := range m { m = map() print(k) } print(len(m))":                                "5 3 0",
		two + "for k, v := range m { k = 8 v = 9 print(k) }":                                            "8 8",
		two + "for k, v := range m { if len(m) < 30 { m[k + 100] = 1 m[k + 1000] = 2 } } print(len(m))": "30",
		two + "for k, v := range m { for i, j := range m { if i == 5 { continue } print(k + j) } }":     "35 33",
		two + "for m, v := range m { print(m) } print(len(m))":                                          "5 3 2",
	}.check(t)
	// while it grows all its entries move, and each is met
	says{
		"m := map() m[0] = 0 n := 0 for k, v := range m { if k < 50 { m[k + 1] = v + k } n = n + 1 } print(n) print(m[50])": "51 1225",
	}.check(t)
	wantSpent(t, inMain("m := map() m[1] = 1 for k, v := range m { delete(m, k) m[k + 1] = 1 if k < 4 { print(k) } else { for true { } } }"), "1", "2", "3")
}

// wantSpent: what never ends prints as much, and no more.
func wantSpent(t *testing.T, source string, lines ...string) {
	t.Helper()
	r, errno := ir.Run(mustLower(t, source, mustRead(t, source)), api.MaxHeap, 50000)
	checkSame(t, source, r, api.Run{Lines: lines, End: api.Spent})
	checkSame(t, source, errno, api.OK)
}

func TestSpent(t *testing.T) {
	wantSpent(t, inMain("print(1) for true { } print(2)"), "1")
	wantSpent(t, inMain("print(1) for i, j := range 1099511627776 { } print(2)"), "1")
	wantSpent(t, inMain("print(1) x := 0 for x < 1 { continue x = 1 }"), "1")
}
