package read

import "postern/api"

// levels of operators, the loosest one first.
var levels = [...][6]string{
	{"||"},
	{"&&"},
	{"==", "!=", "<", "<=", ">", ">="},
	{"+", "-"},
	{"*", "/", "%"},
}

// callLike: what comes of a keyword that looks like a call, and of how many arguments.
type callLike struct {
	kind  int
	count int
}

const anyCount = -1

// callLikes: all of them, by their words.
func callLikes() map[string]callLike {
	return map[string]callLike{
		"len":    {api.Len, 1},
		"append": {api.Add, 2},
		"slice":  {api.List, anyCount},
		"map":    {api.Empty, 0},
	}
}

func (r *reader) expression() (api.Expr, bool) {
	if !r.enter() {
		return api.Expr{}, false
	}
	defer func() { r.depth-- }()
	return r.operation(0)
}

// operation: what operators of a level, and of those that bind closer, make of single expressions.
func (r *reader) operation(level int) (api.Expr, bool) {
	if level == len(levels) {
		return r.single()
	}
	left, ok := r.operation(level + 1)
	for ok && isOperator(r.peek(), level) {
		op := r.peek().s
		r.step()
		var right api.Expr
		right, ok = r.operation(level + 1)
		left = api.Expr{Kind: api.Two, S: op, Args: []api.Expr{left, right}}
	}
	return left, ok
}

func isOperator(p piece, level int) bool {
	if p.kind != mark {
		return false
	}
	for _, op := range levels[level] {
		if p.s == op {
			return true
		}
	}
	return false
}

func (r *reader) single() (api.Expr, bool) {
	p := r.peek()
	if p.is(mark, "-") || p.is(mark, "!") {
		r.step()
		return r.negated(p.s)
	}
	e, ok := r.firstPart()
	for ok && r.skip(mark, "[") {
		var place api.Expr
		place, ok = r.expression()
		ok = ok && r.mark("]")
		e = api.Expr{Kind: api.At, Args: []api.Expr{e, place}}
	}
	return e, ok
}

// negated: what stands behind "-" or "!".
func (r *reader) negated(op string) (api.Expr, bool) {
	if !r.enter() {
		return api.Expr{}, false
	}
	defer func() { r.depth-- }()
	e, ok := r.single()
	return api.Expr{Kind: api.One, S: op, Args: []api.Expr{e}}, ok
}

func (r *reader) firstPart() (api.Expr, bool) {
	p := r.peek()
	switch p.kind {
	case number:
		r.step()
		return api.Expr{Kind: api.Num, N: p.n}, true
	case text:
		r.step()
		return api.Expr{Kind: api.Text, S: p.s}, true
	case name:
		r.step()
		return r.named(p.s)
	case keyword:
		return r.keywordPart(p)
	}
	return r.bracketed()
}

func (r *reader) bracketed() (api.Expr, bool) {
	if !r.mark("(") {
		return api.Expr{}, false
	}
	e, ok := r.expression()
	return e, ok && r.mark(")")
}

// named: a name was read; what follows tells whether it is called.
func (r *reader) named(s string) (api.Expr, bool) {
	if r.peek().is(mark, "(") {
		return r.call(s)
	}
	return api.Expr{Kind: api.Var, S: s}, true
}

func (r *reader) call(s string) (api.Expr, bool) {
	args, ok := r.arguments()
	return api.Expr{Kind: api.Call, S: s, Args: args}, ok
}

func (r *reader) keywordPart(p piece) (api.Expr, bool) {
	switch p.s {
	case "true":
		r.step()
		return api.Expr{Kind: api.Truth, N: 1}, true
	case "false":
		r.step()
		return api.Expr{Kind: api.Truth}, true
	}
	c, ok := callLikes()[p.s]
	if !ok {
		return api.Expr{}, r.refuse()
	}
	r.step()
	args, ok := r.arguments()
	if ok && c.count != anyCount && len(args) != c.count {
		ok = r.fail(p.at, api.ErrCount)
	}
	return api.Expr{Kind: c.kind, Args: args}, ok
}

func (r *reader) arguments() ([]api.Expr, bool) {
	var args []api.Expr
	ok := r.listed(func() bool {
		e, ok := r.expression()
		args = append(args, e)
		return ok
	})
	return args, ok
}
