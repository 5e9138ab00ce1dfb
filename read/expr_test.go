package read_test

import (
	"strings"
	"testing"

	"postern/api"
)

// P1.4: first parts.
func TestFirstParts(t *testing.T) {
	x, y := variable("x"), variable("y")
	for _, c := range []struct {
		source string
		want   api.Expr
	}{
		{"7", num(7)},
		{`"a b"`, str("a b")},
		{"true", truth(1)},
		{"false", truth(0)},
		{"x", x},
		{"(x)", x},
		{"((7))", num(7)},
		{"f()", call("f")},
		{"f(x)", call("f", x)},
		{"f(x, 1, y)", call("f", x, num(1), y)},
		{"f (g(), h(x))", call("f", call("g"), call("h", x))},
		{"len(x)", of(api.Len, x)},
		{"append(x, y)", of(api.Add, x, y)},
		{"slice()", of(api.List)},
		{"slice(1)", of(api.List, num(1))},
		{"slice(x, 2, y, 4, 5, 6)", of(api.List, x, num(2), y, num(4), num(5), num(6))},
		{"map()", of(api.Empty)},
	} {
		checkSame(t, c.source, exprOf(t, c.source), c.want)
	}
}

// P1.4: single ones.
func TestSingleOnes(t *testing.T) {
	x, y := variable("x"), variable("y")
	for _, c := range []struct {
		source string
		want   api.Expr
	}{
		{"-1", one("-", num(1))},
		{"!x", one("!", x)},
		{"- -1", one("-", one("-", num(1)))},
		{"--1", one("-", one("-", num(1)))},
		{"!-!x", one("!", one("-", one("!", x)))},
		{"x[1]", of(api.At, x, num(1))},
		{"x[1][y]", of(api.At, of(api.At, x, num(1)), y)},
		{"x[y[1]]", of(api.At, x, of(api.At, y, num(1)))},
		{"x[1 + y]", of(api.At, x, two(num(1), "+", y))},
		{"-x[1]", one("-", of(api.At, x, num(1)))},
		{"(-x)[1]", of(api.At, one("-", x), num(1))},
		{"f(x)[1]", of(api.At, call("f", x), num(1))},
		{`"ab"[0]`, of(api.At, str("ab"), num(0))},
		{"7[0]", of(api.At, num(7), num(0))},
		{"true[0]", of(api.At, truth(1), num(0))},
		{"slice(1)[0]", of(api.At, of(api.List, num(1)), num(0))},
		{"(x + y)[0]", of(api.At, two(x, "+", y), num(0))},
		{"-x + y", two(one("-", x), "+", y)},
		{"!x == y", two(one("!", x), "==", y)},
		{"x - -y", two(x, "-", one("-", y))},
		{"x--y", two(x, "-", one("-", y))},
	} {
		checkSame(t, c.source, exprOf(t, c.source), c.want)
	}
}

// P1.4: every pair of operators: the tighter one stands inside, of one level the first one.
func TestOperators(t *testing.T) {
	a, b, c := variable("a"), variable("b"), variable("c")
	level := map[string]int{}
	for i, l := range []string{"||", "&&", "== != < <= > >=", "+ -", "* / %"} {
		for _, op := range strings.Fields(l) {
			level[op] = i
		}
	}
	if len(level) != 13 {
		t.Fatal(level)
	}
	for p := range level {
		checkSame(t, p, exprOf(t, "a "+p+" b"), two(a, p, b))
		for q := range level {
			s := "a " + p + " b " + q + " c"
			want := two(two(a, p, b), q, c)
			if level[q] > level[p] {
				want = two(a, p, two(b, q, c))
			}
			checkSame(t, s, exprOf(t, s), want)
			checkSame(t, s, exprOf(t, "a "+p+" (b "+q+" c)"), two(a, p, two(b, q, c)))
			checkSame(t, s, exprOf(t, "(a "+p+" b) "+q+" c"), two(two(a, p, b), q, c))
		}
	}
	s := "a || b && c == a + b * -c"
	checkSame(t, s, exprOf(t, s), two(a, "||", two(b, "&&", two(c, "==", two(a, "+", two(b, "*", one("-", c)))))))
	s = "a * b + c < a && b || c"
	checkSame(t, s, exprOf(t, s), two(two(two(two(two(a, "*", b), "+", c), "<", a), "&&", b), "||", c))
}

// P1.4: how many arguments the words that look like calls have; told when their ")" was read.
func TestArgumentCounts(t *testing.T) {
	checkRefused(t, within([]refused{
		{"x = len() }", 4, api.ErrCount},
		{"x = len(a, b) }", 4, api.ErrCount},
		{"x = append() }", 4, api.ErrCount},
		{"x = append(a) }", 4, api.ErrCount},
		{"x = append(a, b, c) }", 4, api.ErrCount},
		{"x = map(1) }", 4, api.ErrCount},
		{"x = map(1, 2) }", 4, api.ErrCount},
		{"x = 1 + (len()) }", 9, api.ErrCount},
		{"x = len(map(1), 2) }", 8, api.ErrCount},
		{"x = len(1, map(2)) }", 11, api.ErrCount},
		{"x = len() ]", 4, api.ErrCount},
		{"x = len()", 4, api.ErrCount},
		{"x = len(a, b", 12, api.ErrShort},
		{"x = len(a, b ]", 13, api.ErrForm},
		{"x = map(1 2)", 10, api.ErrForm},
	}))
}

// P1.3 and P1.4: wrong expressions, and those that end too early.
func TestWrongExpressions(t *testing.T) {
	checkRefused(t, within([]refused{
		{"x = }", 4, api.ErrForm},
		{"x =", 3, api.ErrShort},
		{"x = ", 4, api.ErrShort},
		{"x = + 1 }", 4, api.ErrForm},
		{"x = 1 + }", 8, api.ErrForm},
		{"x = 1 + * 2 }", 8, api.ErrForm},
		{"x = 1 +", 7, api.ErrShort},
		{"x = 1 +  ", 9, api.ErrShort},
		{"x = - }", 6, api.ErrForm},
		{"x = -", 5, api.ErrShort},
		{"x = !", 5, api.ErrShort},
		{"x = () }", 5, api.ErrForm},
		{"x = (", 5, api.ErrShort},
		{"x = (1 }", 7, api.ErrForm},
		{"x = (1", 6, api.ErrShort},
		{"x = (1] }", 6, api.ErrForm},
		{"x = (1, 2) }", 6, api.ErrForm},
		{"x = a[ }", 7, api.ErrForm},
		{"x = a[] }", 6, api.ErrForm},
		{"x = a[1 }", 8, api.ErrForm},
		{"x = a[1", 7, api.ErrShort},
		{"x = a[1) }", 7, api.ErrForm},
		{"x = a[1, 2] }", 7, api.ErrForm},
		{"x = f( }", 7, api.ErrForm},
		{"x = f(", 6, api.ErrShort},
		{"x = f(1", 7, api.ErrShort},
		{"x = f(1,", 8, api.ErrShort},
		{"x = f(1,) }", 8, api.ErrForm},
		{"x = f(,1) }", 6, api.ErrForm},
		{"x = f(1 2) }", 8, api.ErrForm},
		{"x = f(1] }", 7, api.ErrForm},
		{"x = len }", 8, api.ErrForm},
		{"x = len", 7, api.ErrShort},
		{"x = len x }", 8, api.ErrForm},
		{"x = map[1] }", 7, api.ErrForm},
		{"x = slice{1} }", 9, api.ErrForm},
		{"x = true(1) }", 8, api.ErrForm},
		{"x = 7(1) }", 5, api.ErrForm},
		{"x = f(1)(2) }", 8, api.ErrForm},
		{"x = \"a\" \"b\" }", 8, api.ErrForm},
		{"x = [1] }", 4, api.ErrForm},
		{"x = , }", 4, api.ErrForm},
		{"x = : }", 4, api.ErrForm},
		{"x = { } }", 4, api.ErrForm},
		{"x = 1 = 2 }", 6, api.ErrForm},
	}))
	// a text that reads like a mark or a keyword is none
	checkSame(t, "texts", exprOf(t, `"(" + ")" + "len" + "-"`), two(two(two(str("("), "+", str(")")), "+", str("len")), "+", str("-")))
}
