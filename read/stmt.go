package read

import "postern/api"

func (r *reader) block() ([]api.Stmt, bool) {
	if !r.mark("{") || !r.enter() {
		return nil, false
	}
	defer func() { r.depth-- }()
	var l []api.Stmt
	for !r.skip(mark, "}") {
		s, ok := r.statement()
		if !ok {
			return nil, false
		}
		l = append(l, s)
	}
	return l, true
}

func (r *reader) statement() (api.Stmt, bool) {
	p := r.peek()
	switch p.kind {
	case name:
		r.step()
		return r.nameStatement(p)
	case keyword:
		r.step()
		return r.keywordStatement(p)
	}
	return api.Stmt{}, r.refuse()
}

// nameStatement: its name p was read.
func (r *reader) nameStatement(p piece) (api.Stmt, bool) {
	next := r.peek()
	switch {
	case r.skip(mark, ":="):
		return r.assigned(api.Let, p.s)
	case r.skip(mark, "="):
		return r.assigned(api.Set, p.s)
	case r.skip(mark, "["):
		return r.put(p.s)
	case next.is(mark, "("):
		e, ok := r.call(p.s)
		return api.Stmt{Kind: api.Do, Exprs: []api.Expr{e}}, ok
	case next.kind == end:
		return api.Stmt{}, r.refuse()
	}
	return api.Stmt{}, r.fail(p.at, api.ErrForm)
}

func (r *reader) assigned(kind int, s string) (api.Stmt, bool) {
	e, ok := r.expression()
	return api.Stmt{Kind: kind, S: s, Exprs: []api.Expr{e}}, ok
}

// put: a name and "[" were read.
func (r *reader) put(s string) (api.Stmt, bool) {
	place, ok := r.expression()
	if !ok || !r.mark("]") || !r.mark("=") {
		return api.Stmt{}, false
	}
	value, ok := r.expression()
	return api.Stmt{Kind: api.Put, S: s, Exprs: []api.Expr{place, value}}, ok
}

// keywordStatement: its keyword p was read.
func (r *reader) keywordStatement(p piece) (api.Stmt, bool) {
	switch p.s {
	case "if":
		return r.ifStatement()
	case "for":
		return r.loop()
	case "switch":
		return r.switchStatement()
	case "return":
		return r.returnStatement()
	case "print":
		return r.printStatement()
	case "break":
		return api.Stmt{Kind: api.Break}, true
	case "continue":
		return api.Stmt{Kind: api.Continue}, true
	case "delete":
		return r.deleteStatement()
	}
	return api.Stmt{}, r.fail(p.at, api.ErrForm)
}

// headed: an expression and a block.
func (r *reader) headed(s api.Stmt) (api.Stmt, bool) {
	e, ok := r.expression()
	if !ok {
		return api.Stmt{}, false
	}
	s.Exprs = []api.Expr{e}
	s.Body, ok = r.block()
	return s, ok
}

func (r *reader) ifStatement() (api.Stmt, bool) {
	s, ok := r.headed(api.Stmt{Kind: api.If})
	if !ok || !r.skip(keyword, "else") {
		return s, ok
	}
	if r.skip(keyword, "if") {
		s.Else, ok = r.elseIf()
	} else {
		s.Else, ok = r.block()
	}
	return s, ok
}

// elseIf: what stands behind "else if", a level of its own.
func (r *reader) elseIf() ([]api.Stmt, bool) {
	if !r.enter() {
		return nil, false
	}
	defer func() { r.depth-- }()
	s, ok := r.ifStatement()
	return []api.Stmt{s}, ok
}

func (r *reader) loop() (api.Stmt, bool) {
	if r.atRange() {
		return r.rangeLoop()
	}
	return r.headed(api.Stmt{Kind: api.For})
}

// atRange: a word and "," are next; any word, as a keyword in its place is to be refused as a wrong name.
func (r *reader) atRange() bool {
	k := r.peek().kind
	return (k == name || k == keyword) && r.pieces[r.next+1].is(mark, ",")
}

func (r *reader) rangeLoop() (api.Stmt, bool) {
	s, ok := r.name()
	if !ok || !r.mark(",") {
		return api.Stmt{}, false
	}
	t, ok := r.name()
	if !ok || !r.mark(":=") || !r.keyword("range") {
		return api.Stmt{}, false
	}
	return r.headed(api.Stmt{Kind: api.Range, S: s, T: t})
}

func (r *reader) switchStatement() (api.Stmt, bool) {
	e, ok := r.expression()
	if !ok || !r.mark("{") {
		return api.Stmt{}, false
	}
	s := api.Stmt{Kind: api.Switch, Exprs: []api.Expr{e}}
	for r.skip(keyword, "case") {
		c, ok := r.switchCase()
		if !ok {
			return api.Stmt{}, false
		}
		s.Cases = append(s.Cases, c)
	}
	if r.skip(keyword, "default") {
		s.Else, ok = r.caseBody()
	}
	return s, ok && r.mark("}")
}

// switchCase: its "case" was read.
func (r *reader) switchCase() (api.Case, bool) {
	var c api.Case
	for more := true; more; more = r.skip(mark, ",") {
		n, ok := r.caseNumber()
		if !ok {
			return api.Case{}, false
		}
		c.Nums = append(c.Nums, n)
	}
	var ok bool
	c.Body, ok = r.caseBody()
	return c, ok
}

func (r *reader) caseNumber() (int, bool) {
	below := r.skip(mark, "-")
	p := r.peek()
	if p.kind != number {
		return 0, r.refuse()
	}
	r.step()
	if below {
		return -p.n, true
	}
	return p.n, true
}

func (r *reader) caseBody() ([]api.Stmt, bool) {
	if !r.mark(":") {
		return nil, false
	}
	return r.block()
}

func (r *reader) returnStatement() (api.Stmt, bool) {
	s := api.Stmt{Kind: api.Return}
	if r.peek().is(mark, "}") {
		return s, true
	}
	e, ok := r.expression()
	s.Exprs = []api.Expr{e}
	return s, ok
}

func (r *reader) printStatement() (api.Stmt, bool) {
	at := r.peek().at
	args, ok := r.arguments()
	if ok && len(args) != 1 {
		ok = r.fail(at, api.ErrCount)
	}
	return api.Stmt{Kind: api.Print, Exprs: args}, ok
}

func (r *reader) deleteStatement() (api.Stmt, bool) {
	if !r.mark("(") {
		return api.Stmt{}, false
	}
	s, ok := r.name()
	if !ok || !r.mark(",") {
		return api.Stmt{}, false
	}
	e, ok := r.expression()
	return api.Stmt{Kind: api.Delete, S: s, Exprs: []api.Expr{e}}, ok && r.mark(")")
}
