package read_test

import (
	"strings"
	"testing"

	"postern/api"
)

// deepest: blocks in one another, as many as there may be, the innermost one open; nothing that has a value may stand in it.
var deepest = "func a() { " + strings.Repeat("if x { ", api.MaxNest-1)

// P1.6: expressions and what stands behind "-" and "!" are levels. Around each of these there are already a block and an expression.
func TestDeepExpressions(t *testing.T) {
	const most = api.MaxNest - 2
	const head = "func a() { x = "
	for _, c := range []struct{ open, close string }{
		{"(", ")"}, {"f(", ")"}, {"len(", ")"}, {"slice(", ")"}, {"append(", ", 1)"}, {"x[", "]"}, {"-", ""}, {"!", ""},
		{"1 + (", ") + 1"}, {"f()[", "][0]"}, {"2 * (", ")"}, {"x[", "][0]"},
	} {
		inner := strings.Repeat(c.open, most) + "1" + strings.Repeat(c.close, most)
		mustRead(t, head+inner+" }")
		mustRead(t, head+inner+" y = "+inner+" print("+inner+") }")
		at := len(head) + (most+1)*len(c.open)
		for _, more := range []int{1, 2, 40} {
			s := head + strings.Repeat(c.open, most+more) + "1" + strings.Repeat(c.close, most+more) + " }"
			checkRefused(t, []refused{{s, at, api.ErrDeep}})
		}
		// a level is refused ahead of what stands there, or does not
		deep := head + strings.Repeat(c.open, most+1)
		checkRefused(t, []refused{{deep, len(deep), api.ErrDeep}, {deep + " ", len(deep) + 1, api.ErrDeep}})
		checkRefused(t, []refused{{deep + "}", len(deep), api.ErrDeep}, {deep + " func", len(deep) + 1, api.ErrDeep}})
	}
}

// P1.6: different levels count together.
func TestMixedLevels(t *testing.T) {
	unit := "-(!f(x[" // "-", "(", "!", "f(", "[": five levels
	head := "func a() { if x { x = "
	s := head + strings.Repeat(unit, 5) + "--" // 3 and 27 levels: as many as there may be
	mustRead(t, s+"1"+strings.Repeat("]))", 5)+" } }")
	mustRead(t, s+"f()"+strings.Repeat("]))", 5)+" } }")
	checkRefused(t, []refused{{s + "-1", len(s) + 1, api.ErrDeep}, {s + "(1", len(s) + 1, api.ErrDeep}})
	checkRefused(t, []refused{{s + "f(1)", len(s) + 2, api.ErrDeep}, {s + "x[1]", len(s) + 2, api.ErrDeep}})
}

// P1.6: blocks are levels; what has no value may stand in the innermost one.
func TestDeepBlocks(t *testing.T) {
	ends := strings.Repeat(" }", api.MaxNest)
	n := len(deepest)
	for _, s := range []string{"", "break", "continue break", "return", "f()", "break f() g() return"} {
		mustRead(t, deepest+s+ends)
	}
	for s, at := range map[string]int{
		"x = 1": 4, "x := 1": 5, "x[1] = 2": 2, "f(1)": 2, "print(1)": 6, "print(]": 6, "delete(m, 1)": 10, "return 1": 7,
		"if x { }": 3, "for x { }": 4, "for i, j := range x { }": 18, "switch x { }": 7, "if ]": 3, "f() break x = -1": 14,
	} {
		checkRefused(t, []refused{{deepest + s + ends, n + at, api.ErrDeep}})
	}
	checkRefused(t, []refused{
		{deepest + "print()" + ends, n + 5, api.ErrCount},
		{deepest + "x" + ends, n, api.ErrForm},
		{deepest + "f(", n + 2, api.ErrDeep},
		{deepest + "x =", n + 3, api.ErrDeep},
		{deepest + "return ", n + 7, api.ErrDeep},
		{deepest, n, api.ErrShort},
	})
	for _, open := range []string{"for x { ", "for i, j := range x { ", "switch x { case 1: { ", "switch x { default: { ", "if x { } else { "} {
		closing := strings.Repeat("} ", strings.Count(open, "{")-strings.Count(open, "}"))
		inner := strings.Repeat(open, api.MaxNest-1) + "break " + strings.Repeat(closing, api.MaxNest-1)
		mustRead(t, "func a() { "+inner+inner+"}")
		s := "func a() { " + strings.Repeat(open, api.MaxNest-1)
		checkRefused(t, []refused{{s + open, len(s) + strings.Index(open, "x"), api.ErrDeep}, {s + "x = 1", len(s) + 4, api.ErrDeep}})
	}
}

// P1.6: what stands behind "else if" is a level, and so is what is behind the next one, in it.
func TestDeepElse(t *testing.T) {
	head, more := "func a() { if x { }", " else if x { }"
	full := head + strings.Repeat(more, api.MaxNest-2)
	mustRead(t, full+" else { break } x = 1 }")
	mustRead(t, full+" "+full[len("func a() { "):]+" }")
	checkRefused(t, []refused{
		{full + more + " }", len(full) + 9, api.ErrDeep},
		{full + more + more + " }", len(full) + 9, api.ErrDeep},
		{full + " else if", len(full) + 8, api.ErrDeep},
		{full + " else if ]", len(full) + 9, api.ErrDeep},
		{full + " else { x = 1 } }", len(full) + 12, api.ErrDeep},
		{full + " else { f(1) } }", len(full) + 10, api.ErrDeep},
	})
	// else and a block with an if in it are one level each, as else if is
	blocks := head + strings.Repeat(" else { if x { }", api.MaxNest-2)
	mustRead(t, blocks+strings.Repeat(" }", api.MaxNest-1))
}

// P1.6: levels that were left do not count, and operators and "[" are none.
func TestLevelsAreLeft(t *testing.T) {
	mustRead(t, "func a() { "+strings.Repeat("if x { y = -(1) } else if x { } ", 100)+"}")
	mustRead(t, "func a() { x = 1"+strings.Repeat(" + -1 * (2)", 300)+" }")
	mustRead(t, "func a() { x = y"+strings.Repeat("[-1]", 900)+" }")
	mustRead(t, "func a() { x = slice(0"+strings.Repeat(", (1)", 700)+") }")
	mustRead(t, "func a() { switch x { "+strings.Repeat("case -1: { } ", 200)+"} }")
	most := "func a() { x = " + strings.Repeat("(", api.MaxNest-2) + "1" + strings.Repeat(")", api.MaxNest-2) + " } "
	mustRead(t, strings.Repeat(most, api.MaxFuncs))
}
