package read_test

import (
	"testing"

	"postern/api"
)

// P1.5: statements of one line.
func TestPlainStatements(t *testing.T) {
	x, y := variable("x"), variable("y")
	for _, c := range []struct {
		source string
		want   []api.Stmt
	}{
		{"", nil},
		{"x := 1", stmts(api.Stmt{Kind: api.Let, S: "x", Exprs: exprs(num(1))})},
		{"x = y", stmts(api.Stmt{Kind: api.Set, S: "x", Exprs: exprs(y)})},
		{"x[1] = y", stmts(api.Stmt{Kind: api.Put, S: "x", Exprs: exprs(num(1), y)})},
		{"x[x[1]] = y[2]", stmts(api.Stmt{Kind: api.Put, S: "x", Exprs: exprs(of(api.At, x, num(1)), of(api.At, y, num(2)))})},
		{"f()", stmts(api.Stmt{Kind: api.Do, Exprs: exprs(call("f"))})},
		{"f(x, 1)", stmts(api.Stmt{Kind: api.Do, Exprs: exprs(call("f", x, num(1)))})},
		{"return", stmts(api.Stmt{Kind: api.Return})},
		{"return x + 1", stmts(api.Stmt{Kind: api.Return, Exprs: exprs(two(x, "+", num(1)))})},
		{"print(x)", stmts(api.Stmt{Kind: api.Print, Exprs: exprs(x)})},
		{"print((x))", stmts(api.Stmt{Kind: api.Print, Exprs: exprs(x)})},
		{"break", stmts(api.Stmt{Kind: api.Break})},
		{"continue", stmts(api.Stmt{Kind: api.Continue})},
		{"delete(x, y + 1)", stmts(api.Stmt{Kind: api.Delete, S: "x", Exprs: exprs(two(y, "+", num(1)))})},
		{"break continue f() x = y f()", stmts(api.Stmt{Kind: api.Break}, api.Stmt{Kind: api.Continue},
			api.Stmt{Kind: api.Do, Exprs: exprs(call("f"))}, api.Stmt{Kind: api.Set, S: "x", Exprs: exprs(y)},
			api.Stmt{Kind: api.Do, Exprs: exprs(call("f"))})},
		{"return x y = 1", stmts(api.Stmt{Kind: api.Return, Exprs: exprs(x)}, api.Stmt{Kind: api.Set, S: "y", Exprs: exprs(num(1))})},
	} {
		checkSame(t, c.source, bodyOf(t, c.source), c.want)
	}
	// lines do not end statements
	checkSame(t, "a call", bodyOf(t, "x = y\n(x)"), stmts(api.Stmt{Kind: api.Set, S: "x", Exprs: exprs(call("y", x))}))
	checkSame(t, "a difference", bodyOf(t, "x = y\n-x"), stmts(api.Stmt{Kind: api.Set, S: "x", Exprs: exprs(two(y, "-", x))}))
	checkSame(t, "a return", bodyOf(t, "return\nx"), stmts(api.Stmt{Kind: api.Return, Exprs: exprs(x)}))
}

// P1.5: if, with else and else if.
func TestIf(t *testing.T) {
	x, y := variable("x"), variable("y")
	stop, on := stmts(api.Stmt{Kind: api.Break}), stmts(api.Stmt{Kind: api.Continue})
	only := api.Stmt{Kind: api.If, Exprs: exprs(y), Body: on}
	both := api.Stmt{Kind: api.If, Exprs: exprs(y), Body: on, Else: stop}
	for source, want := range map[string]api.Stmt{
		"if x { }":                                                     {Kind: api.If, Exprs: exprs(x)},
		"if x { break }":                                               {Kind: api.If, Exprs: exprs(x), Body: stop},
		"if x { break } else { }":                                      {Kind: api.If, Exprs: exprs(x), Body: stop},
		"if x { } else { break }":                                      {Kind: api.If, Exprs: exprs(x), Else: stop},
		"if x { break } else { continue }":                             {Kind: api.If, Exprs: exprs(x), Body: stop, Else: on},
		"if x { break } else if y { continue }":                        {Kind: api.If, Exprs: exprs(x), Body: stop, Else: stmts(only)},
		"if x { break } else if y { continue } else { break }":         {Kind: api.If, Exprs: exprs(x), Body: stop, Else: stmts(both)},
		"if x { break } else { if y { continue } }":                    {Kind: api.If, Exprs: exprs(x), Body: stop, Else: stmts(only)},
		"if x { } else if x { } else if y { continue } else { break }": {Kind: api.If, Exprs: exprs(x), Else: stmts(api.Stmt{Kind: api.If, Exprs: exprs(x), Else: stmts(both)})},
	} {
		checkSame(t, source, bodyOf(t, source), stmts(want))
	}
	checkSame(t, "inner else", bodyOf(t, "if x { if y { continue } else { break } }"), stmts(api.Stmt{Kind: api.If, Exprs: exprs(x), Body: stmts(both)}))
	checkRefused(t, within([]refused{
		{"if { } }", 3, api.ErrForm},
		{"if", 2, api.ErrShort},
		{"if x", 4, api.ErrShort},
		{"if x break }", 5, api.ErrForm},
		{"if x {", 6, api.ErrShort},
		{"if x { } else", 13, api.ErrShort},
		{"if x { } else break }", 14, api.ErrForm},
		{"if x { } else if { } }", 17, api.ErrForm},
		{"if x { } else if", 16, api.ErrShort},
		{"if x { } else { } else { } }", 18, api.ErrForm},
		{"else { } }", 0, api.ErrForm},
		{"if x := 1 { } }", 5, api.ErrForm},
	}))
}

// P1.5: both loops; a word and a "," behind for make it a Range, even if that word is a keyword.
func TestLoops(t *testing.T) {
	x := variable("x")
	stop := stmts(api.Stmt{Kind: api.Break})
	for source, want := range map[string]api.Stmt{
		"for x { break }":               {Kind: api.For, Exprs: exprs(x), Body: stop},
		"for x < 1 { }":                 {Kind: api.For, Exprs: exprs(two(x, "<", num(1)))},
		"for true { break }":            {Kind: api.For, Exprs: exprs(truth(1)), Body: stop},
		"for f(x, 1) { break }":         {Kind: api.For, Exprs: exprs(call("f", x, num(1))), Body: stop},
		"for i, j := range x { break }": {Kind: api.Range, S: "i", T: "j", Exprs: exprs(x), Body: stop},
		"for i, i := range 3 + x { }":   {Kind: api.Range, S: "i", T: "i", Exprs: exprs(two(num(3), "+", x))},
		"for i , j := range \"ab\" { }": {Kind: api.Range, S: "i", T: "j", Exprs: exprs(str("ab"))},
	} {
		checkSame(t, source, bodyOf(t, source), stmts(want))
	}
	checkRefused(t, within([]refused{
		{"for { } }", 4, api.ErrForm},
		{"for", 3, api.ErrShort},
		{"for x", 5, api.ErrShort},
		{"for x; { } }", 5, api.ErrForm},
		{"for i := range x { } }", 6, api.ErrForm},
		{"for i,", 6, api.ErrShort},
		{"for i, 1 := range x { } }", 7, api.ErrForm},
		{"for i, j = range x { } }", 9, api.ErrForm},
		{"for i, j := x { } }", 12, api.ErrForm},
		{"for i, j := range { } }", 18, api.ErrForm},
		{"for i, j := range", 17, api.ErrShort},
		{"for i, j := range x }", 20, api.ErrForm},
		{"for i, j, k := range x { } }", 8, api.ErrForm},
		{"for true, j := range x { } }", 4, api.ErrForm},
		{"for range, j := range x { } }", 4, api.ErrForm},
		{"for 1, j := range x { } }", 5, api.ErrForm},
		{"for (i), j := range x { } }", 7, api.ErrForm},
		{"for range x { } }", 4, api.ErrForm},
	}))
}

// P1.5: switches.
func TestSwitch(t *testing.T) {
	x := variable("x")
	stop, on := stmts(api.Stmt{Kind: api.Break}), stmts(api.Stmt{Kind: api.Continue})
	for source, want := range map[string]api.Stmt{
		"switch x { }":                        {Kind: api.Switch, Exprs: exprs(x)},
		"switch x + 1 { default: { break } }": {Kind: api.Switch, Exprs: exprs(two(x, "+", num(1))), Else: stop},
		"switch x { case 1: { break } }":      {Kind: api.Switch, Exprs: exprs(x), Cases: []api.Case{{Nums: []int{1}, Body: stop}}},
		"switch x { case 1, -2, - 3, 0: { } case -0: { break } case 1: { } default: { continue } }": {Kind: api.Switch, Exprs: exprs(x),
			Cases: []api.Case{{Nums: []int{1, -2, -3, 0}}, {Nums: []int{0}, Body: stop}, {Nums: []int{1}}}, Else: on},
		"switch x { case 1099511627776, -1099511627776: { } }": {Kind: api.Switch, Exprs: exprs(x),
			Cases: []api.Case{{Nums: []int{api.MaxNumber, -api.MaxNumber}}}},
	} {
		checkSame(t, source, bodyOf(t, source), stmts(want))
	}
	checkRefused(t, within([]refused{
		{"switch { } }", 7, api.ErrForm},
		{"switch x case 1: { } }", 9, api.ErrForm},
		{"switch x", 8, api.ErrShort},
		{"switch x {", 10, api.ErrShort},
		{"switch x { break } }", 11, api.ErrForm},
		{"switch x { case : { } } }", 16, api.ErrForm},
		{"switch x { case", 15, api.ErrShort},
		{"switch x { case y: { } } }", 16, api.ErrForm},
		{"switch x { case \"1\": { } } }", 16, api.ErrForm},
		{"switch x { case (1): { } } }", 16, api.ErrForm},
		{"switch x { case - -1: { } } }", 18, api.ErrForm},
		{"switch x { case !1: { } } }", 16, api.ErrForm},
		{"switch x { case -", 17, api.ErrShort},
		{"switch x { case 1 + 1: { } } }", 18, api.ErrForm},
		{"switch x { case 1 2: { } } }", 18, api.ErrForm},
		{"switch x { case 1,: { } } }", 18, api.ErrForm},
		{"switch x { case 1 { } } }", 18, api.ErrForm},
		{"switch x { case 1: break } }", 19, api.ErrForm},
		{"switch x { case 1: { } ", 23, api.ErrShort},
		{"switch x { default { } } }", 19, api.ErrForm},
		{"switch x { default: break } }", 20, api.ErrForm},
		{"switch x { default: { } case 1: { } } }", 24, api.ErrForm},
		{"switch x { default: { } default: { } } }", 24, api.ErrForm},
		{"switch x { default: { }", 23, api.ErrShort},
	}))
}

// P1.5: what print, delete and return refuse.
func TestWrongKeywordStatements(t *testing.T) {
	checkRefused(t, within([]refused{
		{"print() }", 5, api.ErrCount},
		{"print () }", 6, api.ErrCount},
		{"print(x, y) }", 5, api.ErrCount},
		{"print()", 5, api.ErrCount},
		{"print(x, y", 10, api.ErrShort},
		{"print(x, y]", 10, api.ErrForm},
		{"print x }", 6, api.ErrForm},
		{"print", 5, api.ErrShort},
		{"print = 1 }", 6, api.ErrForm},
		{"delete x }", 7, api.ErrForm},
		{"delete", 6, api.ErrShort},
		{"delete(", 7, api.ErrShort},
		{"delete() }", 7, api.ErrForm},
		{"delete(1, 2) }", 7, api.ErrForm},
		{"delete(x) }", 8, api.ErrForm},
		{"delete(x[1]) }", 8, api.ErrForm},
		{"delete(x,) }", 9, api.ErrForm},
		{"delete(x, 1, 2) }", 11, api.ErrForm},
		{"delete(x, 1", 11, api.ErrShort},
		{"return", 6, api.ErrShort},
		{"return ]", 7, api.ErrForm},
		{"return break }", 7, api.ErrForm},
		{"return 1 2 }", 9, api.ErrForm},
		{"break 1 }", 6, api.ErrForm},
		{"break", 5, api.ErrShort},
	}))
}

// P1.5: what may stand behind a name: anything else is told at the name, the end of the source at its place.
func TestWrongNameStatements(t *testing.T) {
	checkRefused(t, within([]refused{
		{"x }", 0, api.ErrForm},
		{"x y = 1 }", 0, api.ErrForm},
		{"break x + 1 }", 6, api.ErrForm},
		{"x == 1 }", 0, api.ErrForm},
		{"x, y = 1 }", 0, api.ErrForm},
		{"x 1 }", 0, api.ErrForm},
		{"x \"=\" 1 }", 0, api.ErrForm},
		{"x if y { } }", 0, api.ErrForm},
		{"x)", 0, api.ErrForm},
		{"x", 1, api.ErrShort},
		{"x ", 2, api.ErrShort},
		{"x := }", 5, api.ErrForm},
		{"x :=", 4, api.ErrShort},
		{"x[] = 1 }", 2, api.ErrForm},
		{"x[1 = 1 }", 4, api.ErrForm},
		{"x[1] }", 5, api.ErrForm},
		{"x[1] := 2 }", 5, api.ErrForm},
		{"x[1] == 2 }", 5, api.ErrForm},
		{"x[1][2] = 3 }", 4, api.ErrForm},
		{"x[1]", 4, api.ErrShort},
		{"x[1] =", 6, api.ErrShort},
		{"f(1,) }", 4, api.ErrForm},
		{"f(", 2, api.ErrShort},
		{"f()[1] = 2 }", 3, api.ErrForm},
		{"f() + 1 }", 4, api.ErrForm},
		{"f()() }", 3, api.ErrForm},
	}))
}

// P1.5: what begins no statement, and blocks that do not end.
func TestWrongStatements(t *testing.T) {
	checkRefused(t, within([]refused{
		{"1 }", 0, api.ErrForm},
		{"\"a\" }", 0, api.ErrForm},
		{"{ } }", 0, api.ErrForm},
		{"(x) }", 0, api.ErrForm},
		{"-x }", 0, api.ErrForm},
		{"= 1 }", 0, api.ErrForm},
		{", }", 0, api.ErrForm},
		{"] }", 0, api.ErrForm},
		{"", 0, api.ErrShort},
		{"   ", 3, api.ErrShort},
		{"x = 1 ", 6, api.ErrShort},
		{"if x { } ", 9, api.ErrShort},
		{"} }", 2, api.ErrForm},
		{"} x = 1", 2, api.ErrForm},
	}))
}
