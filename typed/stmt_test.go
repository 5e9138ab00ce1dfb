package typed_test

import (
	"math"
	"testing"

	"postern/api"
)

// P2.3: where names are known, and where they are not.
func TestScopes(t *testing.T) {
	bodies{
		"x := 1 x = 2 print(x)": api.OK,
		"x = 1 x := 1":          api.ErrNone,
		"print(x) x := 1":       api.ErrNone,
		"x := x":                api.ErrNone,
		"x := 1 x := 2":         api.ErrTwice,
		"x := 1 x := true":      api.ErrTwice,
		"i := 1":                api.ErrTwice,
		"if b { i := true print(!i) } print(i + 1)":            api.OK,
		"if b { i := true } print(!i)":                         api.ErrType,
		"if b { i := true print(i + 1) }":                      api.ErrType,
		"if b { i := i == 1 print(!i) }":                       api.OK,
		"if b { print(i + 1) i := true print(!i) }":            api.OK,
		"if b { i = 2 i := true i = false }":                   api.OK,
		"if b { i := true i = 1 }":                             api.ErrType,
		"if b { x := 1 } x = 2":                                api.ErrNone,
		"if b { x := 1 } else { x = 2 }":                       api.ErrNone,
		"if b { x := 1 } else { x := s }":                      api.OK,
		"if b { } else { x := 1 } x = 2":                       api.ErrNone,
		"if b { x := 1 if b { x = 2 if b { print(x) } } }":     api.OK,
		"if b { x := 1 if b { x := s } x = s }":                api.ErrType,
		"for b { x := 1 } x = 1":                               api.ErrNone,
		"for b { i := s } i = 1":                               api.OK,
		"for x, y := range 3 { print(x + y) }":                 api.OK,
		"for x, y := range 3 { } print(x)":                     api.ErrNone,
		"for x, y := range 3 { } print(y)":                     api.ErrNone,
		"for x, y := range x { }":                              api.ErrNone,
		"for x, y := range l { } for x, y := range m { }":      api.OK,
		"for x, y := range 3 { x := s y := b print(x + s) }":   api.OK,
		"for x, y := range 3 { x := s x := s }":                api.ErrTwice,
		"for s, b := range s { print(s + b) } print(s) b = !b": api.OK,
		"for s, b := range s { s = s + 1 b = s } s = s + s":    api.OK,
		"for x, y := range s { x = s }":                        api.ErrType,
		"for x, y := range s { y = b }":                        api.ErrType,
		"switch i { case 1: { x := 1 } case 2: { x = 2 } }":    api.ErrNone,
		"switch i { case 1: { x := 1 } case 2: { x := s } }":   api.OK,
		"switch i { case 1: { x := 1 } default: { x = 2 } }":   api.ErrNone,
		"switch i { case 1: { } default: { x := 1 } } x = 1":   api.ErrNone,
		"switch i { case 1: { i := s i = s } } i = 2":          api.OK,
		"i = s": api.ErrType,
	}.check(t)
	for _, name := range goodNames() {
		checkBody(t, name, block(naming(name, api.Let, num(1)), naming(name, api.Set, num(1))), api.OK)
		checkBody(t, name, block(ranging(name, "y", num(1))), api.OK)
		checkBody(t, name, block(ranging("y", name, num(1))), api.OK)
	}
	for _, name := range badNames() {
		checkBody(t, name, block(naming(name, api.Let, num(1))), api.ErrForm)
		checkBody(t, name, block(naming(name, api.Set, num(1))), api.ErrNone)
		checkBody(t, name, block(ranging(name, "y", num(1))), api.ErrForm)
		checkBody(t, name, block(ranging("y", name, num(1))), api.ErrForm)
		checkBody(t, name, block(ranging(name, name, num(1))), api.ErrForm)
	}
}

func ranging(s, t string, e api.Expr, body ...api.Stmt) api.Stmt {
	return api.Stmt{Kind: api.Range, S: s, T: t, Exprs: []api.Expr{e}, Body: body}
}

// P2.6: of which types the Exprs of statements, and their variables, are.
func TestStatementTypes(t *testing.T) {
	fits := func(kinds ...int) []api.Errno {
		l := []api.Errno{api.ErrType, api.ErrType, api.ErrType, api.ErrType, api.ErrType, api.ErrType}
		for _, k := range kinds {
			l[k] = api.OK
		}
		return l
	}
	for what, c := range map[string]struct {
		make func(e api.Expr) api.Stmt
		want []api.Errno // by the type of the expression
	}{
		"let":         {func(e api.Expr) api.Stmt { return naming("x", api.Let, e) }, fits(1, 2, 3, 4, 5)},
		"set an int":  {func(e api.Expr) api.Stmt { return naming("i", api.Set, e) }, fits(1)},
		"set a bool":  {func(e api.Expr) api.Stmt { return naming("b", api.Set, e) }, fits(2)},
		"set a text":  {func(e api.Expr) api.Stmt { return naming("s", api.Set, e) }, fits(3)},
		"set a slice": {func(e api.Expr) api.Stmt { return naming("l", api.Set, e) }, fits(4)},
		"set a map":   {func(e api.Expr) api.Stmt { return naming("m", api.Set, e) }, fits(5)},
		"put where":   {func(e api.Expr) api.Stmt { return naming("l", api.Put, e, num(1)) }, fits(1)},
		"put what":    {func(e api.Expr) api.Stmt { return naming("l", api.Put, num(1), e) }, fits(1)},
		"map's where": {func(e api.Expr) api.Stmt { return naming("m", api.Put, e, num(1)) }, fits(1)},
		"map's what":  {func(e api.Expr) api.Stmt { return naming("m", api.Put, num(1), e) }, fits(1)},
		"delete":      {func(e api.Expr) api.Stmt { return naming("m", api.Delete, e) }, fits(1)},
		"print":       {func(e api.Expr) api.Stmt { return doing(api.Print, e) }, fits(1, 2, 3)},
		"if":          {func(e api.Expr) api.Stmt { return doing(api.If, e) }, fits(2)},
		"for":         {func(e api.Expr) api.Stmt { return doing(api.For, e) }, fits(2)},
		"range":       {func(e api.Expr) api.Stmt { return ranging("x", "y", e) }, fits(1, 3, 4, 5)},
		"switch":      {func(e api.Expr) api.Stmt { return doing(api.Switch, e) }, fits(1)},
		"if, with all": {func(e api.Expr) api.Stmt {
			return api.Stmt{Kind: api.If, Exprs: []api.Expr{e}, Body: block(doing(api.Return)), Else: block(doing(api.Return))}
		}, fits(2)},
	} {
		for k, e := range ofType() {
			checkBody(t, what, block(c.make(e)), c.want[k])
		}
		checkBody(t, what, block(c.make(variable("zz"))), api.ErrNone)
		checkBody(t, what, block(c.make(of(99))), api.ErrKind)
		checkBody(t, what, block(c.make(num(math.MinInt))), api.ErrRange)
	}
	for kind, want := range map[int]map[string]api.Errno{
		api.Put:    {"i": api.ErrType, "b": api.ErrType, "s": api.ErrType, "l": api.OK, "m": api.OK, "x": api.ErrNone, "": api.ErrNone, "int1": api.ErrNone},
		api.Delete: {"i": api.ErrType, "b": api.ErrType, "s": api.ErrType, "l": api.ErrType, "m": api.OK, "x": api.ErrNone, "if": api.ErrNone},
		api.Set:    {"i": api.OK, "b": api.ErrType, "s": api.ErrType, "l": api.ErrType, "m": api.ErrType, "x": api.ErrNone, "none": api.ErrNone},
	} {
		for name, errno := range want {
			l := make1(1, num(1))
			if kind == api.Put {
				l = make1(2, num(1))
			}
			checkBody(t, name, block(naming(name, kind, l...)), errno)
		}
	}
}

// P2.6: the values first, from left to right, then the variable.
func TestStatementOrder(t *testing.T) {
	none, kind, big := variable("zz"), of(0), num(math.MaxInt)
	for _, c := range []struct {
		s     api.Stmt
		errno api.Errno
	}{
		{naming("", api.Let, none), api.ErrNone},
		{naming("", api.Let, big), api.ErrRange},
		{naming("", api.Let, call("none")), api.ErrType},
		{naming("i", api.Let, call("none")), api.ErrType},
		{naming("i", api.Let, kind), api.ErrKind},
		{naming("x", api.Set, big), api.ErrRange},
		{naming("x", api.Set, call("none")), api.ErrType},
		{naming("x", api.Set, variable("s")), api.ErrNone},
		{naming("x", api.Put, big, kind), api.ErrRange},
		{naming("x", api.Put, kind, big), api.ErrKind},
		{naming("x", api.Put, num(1), kind), api.ErrKind},
		{naming("x", api.Put, variable("s"), big), api.ErrType},
		{naming("x", api.Put, num(1), variable("s")), api.ErrType},
		{naming("x", api.Put, num(1), num(1)), api.ErrNone},
		{naming("x", api.Delete, variable("s")), api.ErrType},
		{naming("x", api.Delete, kind), api.ErrKind},
		{naming("x", api.Delete, num(1)), api.ErrNone},
		{ranging("", "", kind), api.ErrKind},
		{ranging("", "", variable("b")), api.ErrType},
		{ranging("", "", call("none")), api.ErrType},
		{ranging("x", "x", num(1)), api.ErrTwice},
		{ranging("x", "x", num(1), doing(99)), api.ErrTwice},
		{ranging("x", "", num(1), doing(99)), api.ErrForm},
		{ranging("x", "y", num(1), doing(99)), api.ErrKind},
		{ranging("i", "b", num(1)), api.OK},
		{api.Stmt{Kind: api.If, Exprs: make1(1, num(1)), Body: block(doing(99))}, api.ErrType},
		{api.Stmt{Kind: api.For, Exprs: make1(1, num(1)), Body: block(doing(99))}, api.ErrType},
		{api.Stmt{Kind: api.Switch, Exprs: make1(1, text("")), Cases: []api.Case{{}}}, api.ErrType},
	} {
		checkBody(t, c.s, block(c.s), c.errno)
	}
}

// P2.5: there are thirteen kinds.
func TestStatementKinds(t *testing.T) {
	for _, kind := range []int{math.MinInt, -1, 0, 14, 15, 99, math.MaxInt} {
		checkBody(t, kind, block(doing(kind)), api.ErrKind)
		checkBody(t, kind, block(doing(kind, make1(5, of(99))...)), api.ErrKind)
		checkBody(t, kind, block(doing(api.If, variable("b")), doing(kind)), api.ErrKind)
		checkBody(t, kind, block(doing(api.Return), doing(kind)), api.ErrKind) // no one comes there, but it is looked at
		checkBody(t, kind, block(naming("zz", api.Set, num(1)), doing(kind)), api.ErrNone)
	}
}

// P2.5: how many Exprs each kind has, told ahead of all that is in them.
func TestExprCounts(t *testing.T) {
	for kind := api.Let; kind <= api.Do; kind++ {
		want := 1
		switch kind {
		case api.Put:
			want = 2
		case api.Return, api.Break, api.Continue: // of these Returns nothing is given back
			want = 0
		}
		for n := range 5 {
			if n == want {
				continue
			}
			checkBody(t, kind, block(doing(kind, make1(n, num(1))...)), api.ErrCount)
			checkBody(t, kind, block(doing(kind, make1(n, of(99))...)), api.ErrCount)
			loop := api.Stmt{Kind: api.For, Exprs: make1(1, variable("b")), Body: block(doing(kind, make1(n, num(1))...))}
			checkBody(t, kind, block(loop), api.ErrCount)
		}
	}
}

// P2.6: returns.
func TestReturns(t *testing.T) {
	for result, name := range typeNames()[1:] {
		f := api.Func{Name: "f" + name, Result: result + 1}
		for k, e := range ofType() {
			want := api.ErrType
			if k == f.Result {
				want = api.OK
			}
			checkIn(t, f, f, block(doing(api.Return, e)), want)
		}
		good := ofType()[f.Result]
		for _, c := range []struct {
			l    []api.Expr
			want api.Errno
		}{
			{nil, api.ErrCount},
			{[]api.Expr{good, good}, api.ErrCount},
			{[]api.Expr{of(99), good}, api.ErrCount},
			{[]api.Expr{good, good, good}, api.ErrCount},
			{[]api.Expr{variable("zz")}, api.ErrNone},
			{[]api.Expr{of(99)}, api.ErrKind},
		} {
			checkIn(t, f, f, block(doing(api.Return, c.l...)), c.want)
			inner := api.Stmt{Kind: api.If, Exprs: make1(1, variable("b")), Body: block(doing(api.Return, c.l...))}
			checkIn(t, f, f, block(inner, doing(api.Return, good)), c.want)
		}
	}
	bodies{
		"return":                         api.OK,
		"if b { return } return":         api.OK,
		"return 1":                       api.ErrCount,
		"return zz":                      api.ErrCount,
		"return none()":                  api.ErrCount,
		"for b { return s }":             api.ErrCount,
		"if b { return } else { i = s }": api.ErrType,
	}.check(t)
}

// P2.6: a Break and a Continue are in a loop.
func TestBreaks(t *testing.T) {
	for _, s := range []string{"break", "continue"} {
		bodies{
			s:                                     api.ErrUse,
			"if b { " + s + " }":                  api.ErrUse,
			"if b { } else { " + s + " }":         api.ErrUse,
			"switch i { case 1: { " + s + " } }":  api.ErrUse,
			"switch i { default: { " + s + " } }": api.ErrUse,
			"for b { " + s + " }":                 api.OK,
			"for x, y := range 3 { " + s + " }":   api.OK,
			"for b { if b { " + s + " } else { " + s + " } }":                               api.OK,
			"for b { switch i { case 1: { " + s + " } default: { " + s + " } } " + s + " }": api.OK,
			"for b { for b { } " + s + " }":                                                 api.OK,
			"for x, y := range 3 { for b { } " + s + " }":                                   api.OK,
			"for b { } " + s:                         api.ErrUse,
			"for b { " + s + " } " + s:               api.ErrUse,
			"for x, y := range 3 { " + s + " } " + s: api.ErrUse,
			"for b { } if b { " + s + " }":           api.ErrUse,
			"i = s " + s:                             api.ErrType,
			s + " i = s":                             api.ErrUse,
		}.check(t)
		sources{
			"func a() { for true { b() } } func b() { " + s + " }":       {1, api.ErrUse},
			"func a() { for true { " + s + " } } func b() { " + s + " }": {1, api.ErrUse},
		}.check(t)
	}
}

// P2.6: a Do is a call, of whatever function.
func TestDo(t *testing.T) {
	bodies{
		"none()": api.OK, "int1(1)": api.OK, "map1(m)": api.OK, "zz()": api.ErrNone, "int1()": api.ErrCount, "int1(s)": api.ErrType,
	}.check(t)
	for kind := -1; kind < 15; kind++ {
		if kind == api.Call {
			continue
		}
		for n := range 4 {
			checkBody(t, kind, block(doing(api.Do, of(kind, make1(n, of(99))...))), api.ErrForm)
		}
	}
	checkBody(t, "a variable", block(doing(api.Do, variable("i"))), api.ErrForm)
}

// P2.6: numbers of cases.
func TestCases(t *testing.T) {
	choice := func(l ...api.Case) api.Stmt {
		return api.Stmt{Kind: api.Switch, Exprs: make1(1, num(1)), Cases: l}
	}
	wrong := block(naming("zz", api.Set, num(1)))
	of := func(nums ...int) api.Case { return api.Case{Nums: nums} }
	const most = api.MaxNumber
	var far []int
	for i := range 5000 {
		far = append(far, i*i)
	}
	for _, c := range []struct {
		s     api.Stmt
		errno api.Errno
	}{
		{choice(), api.OK},
		{choice(of(1)), api.OK},
		{choice(of(1, 2), of(-1), of(0)), api.OK},
		{choice(of(most, -most)), api.OK},
		{choice(of(most + 1)), api.ErrRange},
		{choice(of(1), of(2, -most-1)), api.ErrRange},
		{choice(of(math.MaxInt)), api.ErrRange},
		{choice(of(math.MinInt)), api.ErrRange},
		{choice(of(most+1, most+1)), api.ErrRange},
		{choice(of()), api.ErrCount},
		{choice(of(1), of()), api.ErrCount},
		{choice(of(), of(1, 1)), api.ErrCount},
		{choice(api.Case{Body: wrong}), api.ErrCount},
		{choice(of(1, 1)), api.ErrTwice},
		{choice(of(1, 2, 1)), api.ErrTwice},
		{choice(of(1), of(2), of(1)), api.ErrTwice},
		{choice(of(-most), of(-most, most+1)), api.ErrTwice},
		{choice(of(1, 1, most+1)), api.ErrTwice},
		{choice(of(1, most+1, 1)), api.ErrRange},
		{choice(of(1, 1), of()), api.ErrTwice},
		{choice(api.Case{Nums: []int{1}, Body: wrong}, of(1)), api.ErrNone},
		{choice(of(1), api.Case{Nums: []int{1}, Body: wrong}), api.ErrTwice},
		{choice(of(1), api.Case{Nums: []int{2}, Body: wrong}, of()), api.ErrNone},
		{choice(of(far...)), api.OK},
		{choice(of(far...), of(16)), api.ErrTwice},
		{choice(of(0), of(far[1:]...), of(-4)), api.OK},
	} {
		checkBody(t, c.s.Cases, block(c.s), c.errno)
		c.s.Else = wrong
		want := c.errno
		if want == api.OK {
			want = api.ErrNone
		}
		checkBody(t, c.s.Cases, block(c.s), want)
	}
	same := choice(of(1))
	same.Cases[0].Body, same.Else = block(choice(of(1))), block(choice(of(1)))
	checkBody(t, "of different switches", block(same, same), api.OK)
}

// P2.5 and P2.6: blocks, one by one, each statement by statement; what a kind does not have is not looked at.
func TestBlocks(t *testing.T) {
	b := make1(1, variable("b"))
	first, second := block(naming("zz", api.Set, num(1))), block(naming("1", api.Let, num(1)))
	for _, c := range []struct {
		s     api.Stmt
		errno api.Errno
	}{
		{api.Stmt{Kind: api.If, Exprs: b, Body: first, Else: second}, api.ErrNone},
		{api.Stmt{Kind: api.If, Exprs: b, Body: second, Else: first}, api.ErrForm},
		{api.Stmt{Kind: api.If, Exprs: b, Else: first}, api.ErrNone},
		{api.Stmt{Kind: api.If, Exprs: b, Cases: []api.Case{{}}}, api.OK},
		{api.Stmt{Kind: api.For, Exprs: b, Body: first}, api.ErrNone},
		{api.Stmt{Kind: api.For, Exprs: b, Else: first, Cases: []api.Case{{}}}, api.OK},
		{api.Stmt{Kind: api.Range, S: "x", T: "y", Exprs: make1(1, num(1)), Else: first, Cases: []api.Case{{}}}, api.OK},
		{api.Stmt{Kind: api.Range, S: "x", T: "y", Exprs: make1(1, num(1)), Body: second}, api.ErrForm},
		{api.Stmt{Kind: api.Switch, Exprs: make1(1, num(1)), Body: first}, api.OK},
		{api.Stmt{Kind: api.Switch, Exprs: make1(1, num(1)), Else: second, Cases: []api.Case{{Nums: []int{1}, Body: first}}}, api.ErrNone},
		{api.Stmt{Kind: api.Switch, Exprs: make1(1, num(1)), Cases: []api.Case{{Nums: []int{1}, Body: second}, {Nums: []int{2}, Body: first}}}, api.ErrForm},
		{api.Stmt{Kind: api.Print, S: "?", T: "?", Exprs: make1(1, num(1)), Body: first, Else: first, Cases: []api.Case{{}}}, api.OK},
		{api.Stmt{Kind: api.Return, S: "?", T: "?", Body: first, Else: first, Cases: []api.Case{{}}}, api.OK},
		{api.Stmt{Kind: api.Let, S: "x", T: "?", Exprs: make1(1, num(1)), Body: first, Else: first, Cases: []api.Case{{}}}, api.OK},
	} {
		checkBody(t, c.s, block(c.s), c.errno)
	}
	checkBody(t, "one by one", append(first, second...), api.ErrNone)
	checkBody(t, "one by one", append(second, first...), api.ErrForm)
}

// wrapStmts: ways to put a statement into another one.
func wrapStmts() []func(api.Stmt) api.Stmt {
	b, i := make1(1, variable("b")), make1(1, variable("i"))
	return []func(api.Stmt) api.Stmt{
		func(s api.Stmt) api.Stmt { return api.Stmt{Kind: api.If, Exprs: b, Body: block(s)} },
		func(s api.Stmt) api.Stmt { return api.Stmt{Kind: api.If, Exprs: b, Else: block(s)} },
		func(s api.Stmt) api.Stmt { return api.Stmt{Kind: api.For, Exprs: b, Body: block(s)} },
		func(s api.Stmt) api.Stmt { return ranging("x", "y", num(1), s) },
		func(s api.Stmt) api.Stmt { return api.Stmt{Kind: api.Switch, Exprs: i, Else: block(s)} },
		func(s api.Stmt) api.Stmt {
			return api.Stmt{Kind: api.Switch, Exprs: i, Cases: []api.Case{{Nums: []int{1}, Body: block(s)}}}
		},
	}
}

// P2.5: a statement is in less than 4 * MaxNest statements. (One that is in more is never reached: what it is in has an expression that is refused first.)
func TestDeepStatements(t *testing.T) {
	const most = 4*api.MaxNest - 1
	empty, value := doing(api.Return), doing(api.Print, num(1))
	for _, wrap := range wrapStmts() {
		for _, c := range []struct {
			s     api.Stmt
			times int
			errno api.Errno
		}{
			{empty, most, api.OK},
			{empty, most + 1, api.ErrDeep},
			{empty, most + 2, api.ErrDeep},
			{empty, 1 << 12, api.ErrDeep},
			{value, most - 1, api.OK},
			{value, most, api.ErrDeep},
			{value, most + 1, api.ErrDeep},
			{doing(99), most, api.ErrKind},
			{doing(99), most + 1, api.ErrDeep},
			{doing(api.Print), most, api.ErrCount},
			{doing(api.Return, num(1)), most, api.ErrCount},
			{doing(api.Print, of(99)), most, api.ErrKind},
			{doing(api.Print, of(api.Num, num(1))), most, api.ErrCount},
			{doing(api.Print, num(math.MaxInt)), most - 1, api.ErrRange},
			{doing(api.Print, num(math.MaxInt)), most, api.ErrDeep},
			{doing(api.Do, num(1)), most, api.ErrForm},
			{doing(api.Do, call("none")), most, api.ErrDeep},
			{doing(api.Do, call("none")), most - 1, api.OK},
			{doing(api.Print, wraps()[0](num(1))), most - 2, api.OK},
			{doing(api.Print, wraps()[0](num(1))), most - 1, api.ErrDeep},
		} {
			s := wrappedStmt(c.s, c.times, wrap)
			checkBody(t, c.times, block(s), c.errno)
			if c.errno == api.OK {
				checkBody(t, c.times, block(s, s), api.OK) // nothing of the first one is left
			}
		}
	}
}
