package read_test

import (
	"reflect"
	"strconv"
	"strings"
	"testing"

	"postern/api"
	"postern/read"
)

// refused: a source, and how it must be refused.
type refused struct {
	source string
	at     int
	errno  api.Errno
}

func checkRefused(t *testing.T, cases []refused) {
	t.Helper()
	for _, c := range cases {
		fs, at, errno := read.Read(c.source)
		if at != c.at || errno != c.errno || len(fs) != 0 {
			t.Errorf("%q: %d functions, %d, %v; want none, %d, %v", c.source, len(fs), at, errno, c.at, c.errno)
		}
	}
}

// within: refusals of what stands in the body of a function; their places are counted from there on.
func within(cases []refused) []refused {
	const head = "func a() { "
	var l []refused
	for _, c := range cases {
		l = append(l, refused{head + c.source, len(head) + c.at, c.errno})
	}
	return l
}

// mustRead the functions of a source that is right.
func mustRead(t *testing.T, source string) []api.Func {
	t.Helper()
	fs, at, errno := read.Read(source)
	if at != 0 || errno != api.OK {
		t.Fatalf("%q: refused at %d with %v", source, at, errno)
	}
	return plainFuncs(fs)
}

// bodyOf: the statements of a function with that body.
func bodyOf(t *testing.T, body string) []api.Stmt {
	t.Helper()
	fs := mustRead(t, "func a() { "+body+" }")
	if len(fs) != 1 {
		t.Fatalf("%q: %d functions", body, len(fs))
	}
	return fs[0].Body
}

// exprOf: what comes of an expression.
func exprOf(t *testing.T, source string) api.Expr {
	t.Helper()
	l := bodyOf(t, "x = "+source)
	if len(l) != 1 || l[0].Kind != api.Set || len(l[0].Exprs) != 1 {
		t.Fatalf("%q: %v", source, l)
	}
	return l[0].Exprs[0]
}

func checkSame(t *testing.T, source string, got, want any) {
	t.Helper()
	if !reflect.DeepEqual(got, want) {
		t.Errorf("%q: %v; want %v", source, got, want)
	}
}

// The plain ones: the same, with nil for lists without elements, as both may be answered.

func plainFuncs(fs []api.Func) []api.Func {
	var l []api.Func
	for _, f := range fs {
		f.Params = append([]api.Param(nil), f.Params...)
		f.Body = plainStmts(f.Body)
		l = append(l, f)
	}
	return l
}

func plainStmts(l []api.Stmt) []api.Stmt {
	var out []api.Stmt
	for _, s := range l {
		s.Exprs, s.Body, s.Else = plainExprs(s.Exprs), plainStmts(s.Body), plainStmts(s.Else)
		var cases []api.Case
		for _, c := range s.Cases {
			cases = append(cases, api.Case{Nums: append([]int(nil), c.Nums...), Body: plainStmts(c.Body)})
		}
		s.Cases = cases
		out = append(out, s)
	}
	return out
}

func plainExprs(l []api.Expr) []api.Expr {
	var out []api.Expr
	for _, e := range l {
		e.Args = plainExprs(e.Args)
		out = append(out, e)
	}
	return out
}

// Short ways to write trees.

func num(n int) api.Expr                 { return api.Expr{Kind: api.Num, N: n} }
func str(s string) api.Expr              { return api.Expr{Kind: api.Text, S: s} }
func truth(n int) api.Expr               { return api.Expr{Kind: api.Truth, N: n} }
func variable(s string) api.Expr         { return api.Expr{Kind: api.Var, S: s} }
func one(op string, e api.Expr) api.Expr { return api.Expr{Kind: api.One, S: op, Args: []api.Expr{e}} }
func two(a api.Expr, op string, b api.Expr) api.Expr {
	return api.Expr{Kind: api.Two, S: op, Args: []api.Expr{a, b}}
}
func call(s string, l ...api.Expr) api.Expr { return api.Expr{Kind: api.Call, S: s, Args: l} }
func of(kind int, l ...api.Expr) api.Expr   { return api.Expr{Kind: kind, Args: l} }
func exprs(l ...api.Expr) []api.Expr        { return l }
func stmts(l ...api.Stmt) []api.Stmt        { return l }

// die: numbers that look drawn, the same each time.
type die uint64

func (d *die) n(most int) int {
	*d = *d*6364136223846793005 + 1442695040888963407
	return int(uint64(*d>>33) % uint64(most))
}

func (d *die) one(l ...string) string { return l[d.n(len(l))] }

// bit of a written source: a piece, and whether it is the name with which a statement begins.
type bit struct {
	s     string
	opens bool
}

// writer of trees as pieces of a source, with no more brackets than are needed.
type writer struct{ bits []bit }

func (w *writer) put(l ...string) {
	for _, s := range l {
		w.bits = append(w.bits, bit{s: s})
	}
}

func (w *writer) open(s string) { w.bits = append(w.bits, bit{s, true}) }

// Tightness of what is written: that of operators is below single, that of a first part above.
const (
	single = 6
	part   = 7
)

func tightness(e api.Expr) int {
	switch e.Kind {
	case api.One:
		return single
	case api.Two:
		for i, l := range []string{"||", "&&", "== != < <= > >=", "+ -", "* / %"} {
			if strings.Contains(" "+l+" ", " "+e.S+" ") {
				return i + 1
			}
		}
	}
	return part
}

// expr written where it must be at least so tight.
func (w *writer) expr(e api.Expr, least int) {
	if tightness(e) < least {
		w.put("(")
		w.expr(e, 0)
		w.put(")")
		return
	}
	switch e.Kind {
	case api.Num:
		w.put(strconv.Itoa(e.N))
	case api.Text:
		s := strings.ReplaceAll(strings.ReplaceAll(e.S, `\`, `\\`), `"`, `\"`)
		w.put(`"` + strings.ReplaceAll(s, "\n", `\n`) + `"`)
	case api.Truth:
		w.put([]string{"false", "true"}[e.N])
	case api.Var:
		w.put(e.S)
	case api.Two:
		w.expr(e.Args[0], tightness(e))
		w.put(e.S)
		w.expr(e.Args[1], tightness(e)+1)
	case api.One:
		w.put(e.S)
		w.expr(e.Args[0], single)
	case api.At:
		w.expr(e.Args[0], part)
		w.put("[")
		w.expr(e.Args[1], 0)
		w.put("]")
	case api.Call:
		w.put(e.S)
		w.args(e.Args)
	default:
		w.put(map[int]string{api.Len: "len", api.Add: "append", api.List: "slice", api.Empty: "map"}[e.Kind])
		w.args(e.Args)
	}
}

func (w *writer) args(l []api.Expr) {
	w.put("(")
	for i, e := range l {
		if i > 0 {
			w.put(",")
		}
		w.expr(e, 0)
	}
	w.put(")")
}

func (w *writer) block(l []api.Stmt) {
	w.put("{")
	for _, s := range l {
		w.stmt(s)
	}
	w.put("}")
}

func (w *writer) stmt(s api.Stmt) {
	switch s.Kind {
	case api.Let, api.Set:
		w.open(s.S)
		w.put(map[int]string{api.Let: ":=", api.Set: "="}[s.Kind])
		w.expr(s.Exprs[0], 0)
	case api.Put:
		w.open(s.S)
		w.put("[")
		w.expr(s.Exprs[0], 0)
		w.put("]", "=")
		w.expr(s.Exprs[1], 0)
	case api.Do:
		w.open(s.Exprs[0].S)
		w.args(s.Exprs[0].Args)
	case api.If:
		w.put("if")
		w.headed(s)
		w.otherwise(s.Else)
	case api.For:
		w.put("for")
		w.headed(s)
	case api.Range:
		w.put("for", s.S, ",", s.T, ":=", "range")
		w.headed(s)
	case api.Switch:
		w.choice(s)
	case api.Return:
		w.put("return")
		for _, e := range s.Exprs {
			w.expr(e, 0)
		}
	case api.Print:
		w.put("print")
		w.args(s.Exprs)
	case api.Break:
		w.put("break")
	case api.Continue:
		w.put("continue")
	case api.Delete:
		w.put("delete", "(", s.S, ",")
		w.expr(s.Exprs[0], 0)
		w.put(")")
	}
}

func (w *writer) headed(s api.Stmt) {
	w.expr(s.Exprs[0], 0)
	w.block(s.Body)
}

func (w *writer) otherwise(l []api.Stmt) {
	switch {
	case len(l) == 1 && l[0].Kind == api.If:
		w.put("else")
		w.stmt(l[0])
	case len(l) > 0:
		w.put("else")
		w.block(l)
	}
}

func (w *writer) choice(s api.Stmt) {
	w.put("switch")
	w.expr(s.Exprs[0], 0)
	w.put("{")
	for _, c := range s.Cases {
		w.put("case")
		for i, n := range c.Nums {
			if i > 0 {
				w.put(",")
			}
			if n < 0 {
				w.put("-")
				n = -n
			}
			w.put(strconv.Itoa(n))
		}
		w.put(":")
		w.block(c.Body)
	}
	if len(s.Else) > 0 {
		w.put("default", ":")
		w.block(s.Else)
	}
	w.put("}")
}

func (w *writer) function(f api.Func) {
	words := []string{"", "int", "bool", "string", "slice", "map"}
	w.put("func", f.Name, "(")
	for i, p := range f.Params {
		if i > 0 {
			w.put(",")
		}
		w.put(p.Name, words[p.Type])
	}
	w.put(")")
	if f.Result != api.None {
		w.put(words[f.Result])
	}
	w.block(f.Body)
}

// Trees that look drawn.

func (d *die) expr(n int) api.Expr {
	if n <= 0 {
		switch d.n(5) {
		case 0:
			return num(d.n(1000))
		case 1:
			return num(api.MaxNumber - d.n(2))
		case 2:
			return str(d.one("", "a", "é\n", `"\`, "{ // ?"))
		case 3:
			return truth(d.n(2))
		}
		return variable(d.one("x", "y", "len1", "abcdefghijkl", "z9z"))
	}
	switch d.n(10) {
	case 0, 1, 2, 3:
		op := d.one("||", "&&", "==", "!=", "<", "<=", ">", ">=", "+", "-", "*", "/", "%")
		return two(d.expr(n-1), op, d.expr(n-1))
	case 4:
		return one(d.one("-", "!"), d.expr(n-1))
	case 5:
		return of(api.At, d.expr(n-1), d.expr(n-1))
	case 6:
		return call(d.one("f", "g2"), d.exprs(n-1, d.n(4))...)
	case 7:
		return of(api.List, d.exprs(n-1, d.n(4))...)
	case 8:
		return of(api.Add, d.exprs(n-1, 2)...)
	}
	if d.n(2) == 0 {
		return of(api.Empty)
	}
	return of(api.Len, d.expr(n-1))
}

func (d *die) exprs(n, many int) []api.Expr {
	var l []api.Expr
	for range many {
		l = append(l, d.expr(n))
	}
	return l
}

func (d *die) stmts(n, many int) []api.Stmt {
	var l []api.Stmt
	for range many {
		l = append(l, d.stmt(n))
	}
	return l
}

func (d *die) stmt(n int) api.Stmt {
	k := 1 + d.n(13)
	if n <= 0 && k >= api.If && k <= api.Switch {
		k = api.Let
	}
	s := api.Stmt{Kind: k, Exprs: d.exprs(2, 1)}
	switch k {
	case api.Let, api.Set, api.Delete:
		s.S = d.one("x", "y")
	case api.Put:
		s.S, s.Exprs = "l", d.exprs(2, 2)
	case api.Do:
		s.Exprs = exprs(call("f", d.exprs(1, d.n(3))...))
	case api.If:
		s.Body, s.Else = d.stmts(n-1, d.n(3)), d.stmts(n-1, d.n(3))
	case api.For:
		s.Body = d.stmts(n-1, d.n(3))
	case api.Range:
		s.S, s.T, s.Body = "i", "j", d.stmts(n-1, d.n(3))
	case api.Switch:
		for range d.n(3) {
			s.Cases = append(s.Cases, api.Case{Nums: []int{d.n(9), -1 - d.n(9)}[d.n(2):], Body: d.stmts(n-1, d.n(2))})
		}
		s.Else = d.stmts(n-1, d.n(2))
	case api.Break, api.Continue:
		s.Exprs = nil
	}
	return s
}

// function, with a return of nothing at its end, as no expression may follow that.
func (d *die) function() api.Func {
	f := api.Func{Name: d.one("a", "main", "f0"), Result: d.n(6)}
	for i := range d.n(api.MaxParams + 1) {
		f.Params = append(f.Params, api.Param{Name: "p" + strconv.Itoa(i), Type: 1 + d.n(5)})
	}
	f.Body = append(d.stmts(2, d.n(5)), api.Stmt{Kind: api.Return})
	return f
}

// functions that look drawn, and their pieces: as many as fit into a source.
func (d *die) functions() ([]api.Func, []bit) {
	var fs []api.Func
	w := &writer{}
	for range 1 + d.n(3) {
		more := &writer{}
		f := d.function()
		more.function(f)
		if len(joined(append(w.bits[:len(w.bits):len(w.bits)], more.bits...), " \n\t")) > api.MaxSource {
			break
		}
		fs, w.bits = append(fs, f), append(w.bits, more.bits...)
	}
	return plainFuncs(fs), w.bits
}

func joined(bits []bit, blanks string) string {
	var b strings.Builder
	for _, x := range bits {
		b.WriteString(x.s + blanks)
	}
	return b.String()
}
