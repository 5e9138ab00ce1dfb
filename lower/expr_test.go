package lower_test

import (
	"strings"
	"testing"

	"postern/api"
	"postern/ir"
)

// P5.4: numbers, that go round.
func TestNumbers(t *testing.T) {
	says{
		"print(7 + 2) print(7 - 9) print(7 * -3)":                                                               "9 -2 -21",
		"print(7 / 2) print(-7 / 2) print(7 / -2) print(-7 / -2)":                                               "3 -3 -3 3",
		"print(7 % 2) print(-7 % 2) print(7 % -2) print(-7 % -2)":                                               "1 -1 1 -1",
		"print(2 + 3 * 4 - 5 % 3) print((2 + 3) * 4) print(9 - 4 - 3)":                                          "12 20 2",
		"print(-5) print(- -5) print(-(2 - 9)) print(0 - 0) print(-0)":                                          "-5 5 7 0 0",
		"print(1099511627776 * 1099511627776) print(1099511627776 * 8388608) print(-(1099511627776 * 8388608))": "0 -9223372036854775808 -9223372036854775808",
		"x := 1099511627776 * 8388608 print(x - 1) print(x / -1) print(x % -1)":                                 "9223372036854775807 -9223372036854775808 0",
	}.check(t)
	ops := map[string][]string{"1, 2": {"false", "true", "true", "true", "false", "false"}, "2, 2": {"true", "false", "false", "true", "false", "true"}, "2, -3": {"false", "true", "false", "false", "true", "true"}}
	for sides, want := range ops {
		a, b, _ := strings.Cut(sides, ", ")
		for i, op := range []string{"==", "!=", "<", "<=", ">", ">="} {
			says{"print(" + a + op + b + ")": want[i]}.check(t)
		}
	}
	checkEnds(t, []ending{
		{"print(1) print(1 / 0) print(2)", api.BadZero, "1"},
		{"print(1) print(1 % 0) print(2)", api.BadZero, "1"},
		{"print(say(1) / (say(2) - 2))", api.BadZero, "1 2"},
		{"print(0 / 0)", api.BadZero, ""},
		{"x := 1 / 0", api.BadZero, ""},
	})
}

// P5.1, P5.4: truths are 1 and 0: what is compared, turned round and given is the same as what is written.
func TestTruths(t *testing.T) {
	says{
		"print(true) print(false) print(!true) print(!false) print(!!true)":                   "true false false true true",
		"print(true == true) print(true == false) print(false == false) print(true != false)": "true false true true",
		"print((1 < 2) == true) print((1 > 2) == false) print((1 < 2) == (\"a\" < \"b\"))":    "true true true",
		"print((2 < 1) != (\"a\" == \"b\")) print(!(1 < 2) == (1 > 2)) print(true != !false)": "false true false",
		"print((\"a\" <= \"a\") == true) print((\"a\" != \"b\") == (1 == 1))":                 "true true",
		"print((true && true) == (false || true)) print((true && false) == (false || false))": "true true",
		"b := 3 > 2 c := b b = false print(b) print(c) print(b == c) print(no(1) == !yes(2))": "false true false 1 2 true",
	}.check(t)
}

// P5.4: the second side of && and || is asked only if the first one leaves it open.
func TestSecondSides(t *testing.T) {
	says{
		"print(no(1) && yes(2))":                                                          "1 false",
		"print(yes(1) && yes(2))":                                                         "1 2 true",
		"print(yes(1) && no(2))":                                                          "1 2 false",
		"print(no(1) && no(2))":                                                           "1 false",
		"print(yes(1) || no(2))":                                                          "1 true",
		"print(no(1) || yes(2))":                                                          "1 2 true",
		"print(no(1) || no(2))":                                                           "1 2 false",
		"print(yes(1) || yes(2))":                                                         "1 true",
		"print(no(1) && yes(2) || yes(3))":                                                "1 3 true",
		"print(yes(1) || yes(2) && no(3))":                                                "1 true",
		"print(no(1) || no(2) || yes(3) || yes(4))":                                       "1 2 3 true",
		"print(yes(1) && yes(2) && no(3) && yes(4))":                                      "1 2 3 false",
		"print((no(1) || yes(2)) && (no(3) || no(4)))":                                    "1 2 3 4 false",
		"print(!(yes(1) && no(2)) && !no(3))":                                             "1 2 3 true",
		"if no(1) && yes(2) { print(3) } else { print(4) }":                               "1 4",
		"for yes(1) && no(2) { print(3) }":                                                "1 2",
		"x := false && 1 / 0 == 1 y := true || slice()[0] == 1 print(x) print(y)":         "false true",
		"b := true c := true b = c && b print(b) b = false b = c && b print(b)":           "true false",
		"b := true c := false b = c || b print(b) b = false b = c || b print(b) print(c)": "true false false",
		"b := true c := false b = (b || c) && (c || b) print(b) b = (c && b) || (b && c) print(b)": "true false",
	}.check(t)
	checkEnds(t, []ending{
		{"print(yes(1) && 1 / 0 == 1)", api.BadZero, "1"},
		{"print(no(1) || 1 / 0 == 1)", api.BadZero, "1"},
	})
}

// P5.4: Args are evaluated one by one, all of them ahead of what they are for.
func TestArgs(t *testing.T) {
	says{
		"print(say(1) + say(2) * say(3))":                                       "1 2 3 7",
		"print(say(3) < say(2))":                                                "3 2 false",
		"l := slice(say(1), say(2), say(3)) print(l[say(1)])":                   "1 2 3 1 2",
		"print(slice(say(4), say(5))[say(1)])":                                  "4 5 1 5",
		"l := append(slice(say(1)), say(2)) print(l[1])":                        "1 2 2",
		"print(two(say(1), say(2)))} func two(a int, b int) int { return a - b": "1 2 -1",
		"m := map() m[say(1)] = say(2) print(m[say(1)])":                        "1 2 1 2",
		"l := slice(0, 0) l[say(1)] = say(2) print(l[1])":                       "1 2 2",
	}.check(t)
	said := " s := \"a\" + t(1, \"b\") print(t(2, \"c\") < t(3, \"d\")) print(t(4, \"e\") >= t(5, \"e\")) print(s) } func t(n int, s string) string { print(n) return s"
	says{said: "1 2 3 true 4 5 true ab"}.check(t)
	checkEnds(t, []ending{
		{"l := slice(1) print(l[say(5)] + say(6))", api.BadAt, "5"},
		{"print(slice(say(1), 1 / 0, say(2))[5])", api.BadZero, "1"},
	})
}

// P5.4: a value that was evaluated is not touched by what is evaluated behind it.
func TestValuesStay(t *testing.T) {
	says{
		"l := slice(1, 2) print(l[0] + change(l) + l[0]) } func change(l slice) int { l[0] = 10 return 100":             "111",
		"m := map() m[0] = 1 print(m[0] + change(m) + m[0]) } func change(m map) int { m[0] = 10 return 100":            "111",
		"m := map() m[0] = 1 print(len(m) * 10 + change(m)) print(len(m)) } func change(m map) int { m[5] = 1 return 0": "10 2",
		"x := 1 print(slice(x, f(x), x)[2]) print(x)":                                                                   "1 1",
		"l := slice(1, 2) k := l l = append(l, 3) print(len(k) * 10 + len(l))":                                          "23",
		"l := slice(7) l = slice(len(l), l[0], len(append(l, 1))) print(l[0]) print(l[1]) print(l[2]) print(len(l))":    "1 7 2 3",
	}.check(t)
}

// P5.4: texts are joined and compared byte by byte.
func TestTexts(t *testing.T) {
	says{
		`print("ab" + "c") print("" + "x") print("x" + "") s := "ab" s = s + s + s print(s)`: "abc x x ababab",
		`print("ab" == "ab") print("ab" == "a" + "b") print("ab" == "abc") print("" == "")`:  "true true false true",
		`print("ab" != "ab") print("ab" != "a" + "b") print("ab" != "abc") print("" != "x")`: "false false true true",
		`s := "é" print(len(s)) print(s[0]) print(s[1]) print(s)`:                            "2 195 169 é",
		`print(len("")) print(len("abc")) print("abc"[2]) print(("a" + "b")[1])`:             "0 3 99 98",
		`s := "a" t := s s = s + "b" print(s) print(t)`:                                      "ab a",
	}.check(t)
	order := []string{"", "a", "aa", "ab", "b", "z", "é"}
	for i, a := range order {
		for j, b := range order {
			for op, so := range map[string]bool{"==": i == j, "!=": i != j, "<": i < j, "<=": i <= j, ">": i > j, ">=": i >= j} {
				want := map[bool]string{true: "true", false: "false"}[so]
				says{"print(\"" + a + "\" " + op + " \"" + b + "\")": want}.check(t)
			}
		}
	}
	source := "func main() { print(\"a b\") print(\"\") print(\"\\n\") print(\"\xff\") }"
	r, errno := ir.Run(mustLower(t, source, mustRead(t, source)), api.MaxHeap, api.MaxFuel)
	checkSame(t, source, r, api.Run{Lines: []string{"a b", "", "\n", "\xff"}, End: api.Done})
	checkSame(t, source, errno, api.OK)
}

// P5.4: lengths.
func TestLengths(t *testing.T) {
	says{
		"l := slice() print(len(l)) l = append(l, 5) print(len(l)) print(len(slice(1, 2, 3)))":            "0 1 3",
		"m := map() print(len(m)) m[1] = 5 m[2] = 0 m[1] = 6 print(len(m)) delete(m, 1) print(len(m))":    "0 2 1",
		"m := map() m[1] = 1 delete(m, 1) delete(m, 1) delete(m, 2) print(len(m)) m[1] = 1 print(len(m))": "0 1",
		"print(len(map())) print(len(append(slice(1), 2))) print(len(\"a\" + \"b\") + len(slice(1)))":     "0 2 3",
		"l := slice(1) x := len(l) l = append(l, 2) print(x) print(len(l)) x = len(l) + x print(x)":       "1 2 3",
	}.check(t)
}

// P5.4: places that are not there.
func TestPlaces(t *testing.T) {
	for _, of := range []string{`slice(7, 8, 9)`, `"abc"`, `append(slice(7, 8), 9)`, `("a" + "bc")`} {
		for place, end := range map[string]int{
			"0": api.Done, "1": api.Done, "2": api.Done, "3": api.BadAt, "4": api.BadAt, "-1": api.BadAt, "-2": api.BadAt, "-3": api.BadAt, "1000000": api.BadAt,
			"1099511627776": api.BadAt, "-1099511627776": api.BadAt, "1099511627776 * 8388608": api.BadAt, "1099511627776 * 8388608 - 1": api.BadAt,
			"1099511627776 * 8388608 + 1": api.BadAt,
		} {
			checkEnds(t, []ending{{"x := " + of + " y := x[" + place + "]", end, ""}})
		}
	}
	checkEnds(t, []ending{
		{"l := slice() print(l[0])", api.BadAt, ""},
		{`s := "" print(s[0])`, api.BadAt, ""},
		{"l := slice(1) print(l[0]) print(l[1])", api.BadAt, "1"},
		{"l := append(slice(1, 2), 3) print(l[2]) print(l[3])", api.BadAt, "3"},
		{"l := slice(1, 2) k := append(l, 3) k = append(k, 4) print(k[3]) print(l[2])", api.BadAt, "4"},
		{`s := "ab" t := "cd" print(s[1]) print(s[2])`, api.BadAt, "98"},
		{`s := "ab" t := "cd" print(t[0]) print(t[-1])`, api.BadAt, "99"},
		{"l := slice(1) k := slice(2) print(k[0]) print(k[-1])", api.BadAt, "2"},
	})
	says{
		"m := map() print(m[0]) print(m[-1]) print(m[1099511627776]) m[-1] = 5 print(m[-1]) print(map()[3])": "0 0 0 5 0",
	}.check(t)
}

// P5.4: a list has room for just its words, an append for more: who has room shares what is added.
func TestLists(t *testing.T) {
	says{
		"l := slice(1, 2, 3) print(l[0]) print(l[1]) print(l[2])":                                                               "1 2 3",
		"l := slice(1) k := append(l, 2) k[0] = 9 print(l[0]) print(k[0]) print(k[1])":                                          "1 9 2",
		"l := append(slice(1), 2) k := append(l, 3) j := append(l, 4) print(k[2]) print(j[2]) j[0] = 9 print(l[0]) print(k[0])": "4 4 9 9",
		"l := slice(1, 2) k := append(l, 3) j := append(l, 4) print(k[2]) print(j[2])":                                          "3 4",
		"l := slice() for i, j := range 20 { l = append(l, i * i) } print(l[0]) print(l[4]) print(l[19]) print(len(l))":         "0 16 361 20",
		"l := slice(slice(1, 2)[1], len(slice(3))) print(l[0]) print(l[1])":                                                     "2 1",
	}.check(t)
}

// P5.4: what is allocated, and nothing else.
func TestRoom(t *testing.T) {
	for body, words := range map[string]int{
		"print(1)":                             0,
		`print("abc")`:                         0,
		`s := "abc" t := s print(t == s)`:      0,
		`s := "abc" + "de"`:                    5,
		`s := "abc" + ""`:                      3,
		`s := "" + ""`:                         0,
		`s := "a" + "b" + "c"`:                 5,
		`print("ab" < "cd") print("a" != "b")`: 0,
		"l := slice()":                         0,
		"l := slice(1, 2, 3)":                  3,
		"l := append(slice(), 1)":              4,
		"l := append(slice(1), 1)":             5,
		"l := append(slice(1, 2, 3), 1)":       9,
		"l := append(append(slice(), 1), 2)":   4,
		"l := slice(1, 2) k := l k[0] = l[1]":  2,
		"m := map()":                           16,
		"m := map() m[1] = 1 m[2] = 1 m[3] = 1 m[4] = 1 m[1] = 2 print(m[9])":             16,
		"m := map() m[1] = 1 m[2] = 1 m[3] = 1 m[4] = 1 m[5] = 1":                         40,
		"m := map() for i, j := range 9 { m[1] = 1 delete(m, 1) }":                        16 + 24 + 48,
		"for i, j := range 5 { l := slice(1, 2) }":                                        10,
		`for i, j := range "abc" { print(j) } for i, j := range slice(1, 2) { print(j) }`: 2,
		"for i, j := range map() { print(i) }":                                            16,
		"m := map() m[1] = 1 for i, j := range m { print(j) } print(f(1) + len(m))":       16,
	} {
		wantRoom(t, body, words)
	}
	// when all are evaluated
	for heap, end := range map[int]int{0: api.BadRoom, 2: api.BadRoom, 3: api.Done} {
		p := mustLower(t, "a list", mustRead(t, inMain("l := slice(say(1), say(2), say(3)) print(4)")))
		r, _ := ir.Run(p, heap, api.MaxFuel)
		if r.End != end || len(r.Lines) != map[int]int{api.BadRoom: 3, api.Done: 4}[end] {
			t.Errorf("%d words: %v", heap, r)
		}
	}
}
