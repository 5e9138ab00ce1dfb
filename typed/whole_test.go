package typed_test

import (
	"math"
	"reflect"
	"strconv"
	"testing"

	"postern/api"
	"postern/typed"
)

// die: numbers that look drawn, the same each time.
type die uint64

func (d *die) n(most int) int {
	*d = *d*6364136223846793005 + 1442695040888963407
	return int(uint64(*d>>33) % uint64(most))
}

// maker of functions that fit, and look drawn.
type maker struct {
	*die
	fs     []api.Func // without their Bodies
	result int
	scopes [][]api.Param
	loops  int
}

// known: the names of a type that are not hidden.
func (m *maker) known(kind int) []string {
	seen := map[string]bool{}
	var l []string
	for i := len(m.scopes) - 1; i >= 0; i-- {
		for _, p := range m.scopes[i] {
			if !seen[p.Name] && p.Type == kind {
				l = append(l, p.Name)
			}
			seen[p.Name] = true
		}
	}
	return l
}

// value of a type.
func (m *maker) value(kind, n int) api.Expr {
	if l := m.known(kind); len(l) > 0 && m.n(3) == 0 {
		return variable(l[m.n(len(l))])
	}
	if f := m.fs[m.n(len(m.fs))]; n > 0 && f.Result == kind {
		return m.call(f, n-1)
	}
	if n <= 0 {
		return []api.Expr{{}, num(m.n(9)), {Kind: api.Truth, N: m.n(2)}, text("é"), of(api.List), of(api.Empty)}[kind]
	}
	two := func(kind int, ops ...string) api.Expr {
		return with(of(api.Two, m.value(kind, n-1), m.value(kind, n-1)), ops[m.n(len(ops))])
	}
	switch kind {
	case api.Int:
		switch m.n(4) {
		case 0:
			return two(api.Int, "+", "-", "*", "/", "%")
		case 1:
			return with(of(api.One, m.value(api.Int, n-1)), "-")
		case 2:
			return of(api.Len, m.value(api.Str+m.n(3), n-1))
		}
		return of(api.At, m.value(api.Str+m.n(3), n-1), m.value(api.Int, n-1))
	case api.Bool:
		switch m.n(4) {
		case 0:
			return two(api.Bool, "&&", "||")
		case 1:
			return two(api.Int+m.n(3), "==", "!=")
		case 2:
			return two([]int{api.Int, api.Str}[m.n(2)], "<", "<=", ">", ">=")
		}
		return with(of(api.One, m.value(api.Bool, n-1)), "!")
	case api.Str:
		return two(api.Str, "+")
	case api.Slice:
		if m.n(2) == 0 {
			return of(api.Add, m.value(api.Slice, n-1), m.value(api.Int, n-1))
		}
		return of(api.List, m.value(api.Int, n-1), m.value(api.Int, n-1))
	}
	return of(api.Empty)
}

func (m *maker) call(f api.Func, n int) api.Expr {
	e := call(f.Name)
	for _, p := range f.Params {
		e.Args = append(e.Args, m.value(p.Type, n))
	}
	return e
}

// in a scope of its own.
func (m *maker) block(n int, l ...api.Param) []api.Stmt {
	m.scopes = append(m.scopes, l, nil)
	defer func() { m.scopes = m.scopes[:len(m.scopes)-2] }()
	var out []api.Stmt
	for range m.n(4) {
		out = append(out, m.stmt(n))
	}
	return out
}

func (m *maker) loop(n int, l ...api.Param) []api.Stmt {
	m.loops++
	defer func() { m.loops-- }()
	return m.block(n, l...)
}

func (m *maker) let() api.Stmt {
	kind := api.Int + m.n(5)
	s := naming("v"+strconv.Itoa(m.n(9)), api.Let, m.value(kind, 2))
	in := &m.scopes[len(m.scopes)-1]
	for _, p := range *in {
		if p.Name == s.S {
			s.Kind, s.Exprs = api.Set, []api.Expr{m.value(p.Type, 2)}
			return s
		}
	}
	*in = append(*in, api.Param{Name: s.S, Type: kind})
	return s
}

func (m *maker) stmt(n int) api.Stmt {
	kind := api.Let + m.n(13)
	if n <= 0 && kind >= api.If && kind <= api.Switch {
		kind = api.Let
	}
	switch kind {
	case api.Put:
		for _, s := range append(m.known(api.Slice), m.known(api.Map)...) {
			return naming(s, kind, m.value(api.Int, 2), m.value(api.Int, 2))
		}
	case api.Delete:
		for _, s := range m.known(api.Map) {
			return naming(s, kind, m.value(api.Int, 2))
		}
	case api.If:
		return api.Stmt{Kind: kind, Exprs: make1(1, m.value(api.Bool, 2)), Body: m.block(n - 1), Else: m.block(n - 1)}
	case api.For:
		return api.Stmt{Kind: kind, Exprs: make1(1, m.value(api.Bool, 2)), Body: m.loop(n - 1)}
	case api.Range:
		of := []int{api.Int, api.Str, api.Slice, api.Map}[m.n(4)]
		e := m.value(of, 2)
		return ranging("v1", "v2", e, m.loop(n-1, api.Param{Name: "v1", Type: api.Int}, api.Param{Name: "v2", Type: api.Int})...)
	case api.Switch:
		s := doing(kind, m.value(api.Int, 2))
		for i := range m.n(3) {
			s.Cases = append(s.Cases, api.Case{Nums: []int{i, -1 - i}[m.n(2):], Body: m.block(n - 1)})
		}
		s.Else = m.block(n - 1)
		return s
	case api.Return:
		return m.leave()
	case api.Print:
		return doing(kind, m.value(api.Int+m.n(3), 2))
	case api.Break, api.Continue:
		if m.loops > 0 {
			return doing(kind)
		}
	case api.Do:
		return doing(kind, m.call(m.fs[m.n(len(m.fs))], 2))
	}
	return m.let()
}

func (m *maker) leave() api.Stmt {
	if m.result == api.None {
		return doing(api.Return)
	}
	return doing(api.Return, m.value(m.result, 2))
}

// ending: a statement that ends a block.
func (m *maker) ending(n int) api.Stmt {
	half := func() []api.Stmt { return append(m.block(1), m.ending(n-1)) }
	switch {
	case n > 0 && m.n(2) == 0:
		return api.Stmt{Kind: api.If, Exprs: make1(1, m.value(api.Bool, 1)), Body: half(), Else: half()}
	case n > 0:
		return api.Stmt{Kind: api.Switch, Exprs: make1(1, m.value(api.Int, 1)), Cases: []api.Case{{Nums: []int{1}, Body: half()}}, Else: half()}
	}
	return m.leave()
}

// functions that fit.
func (d *die) functions() []api.Func {
	m := &maker{die: d, fs: []api.Func{{Name: "main"}}}
	for i := range d.n(5) {
		f := api.Func{Name: "f" + strconv.Itoa(i), Result: d.n(6)}
		for k := range d.n(api.MaxParams + 1) {
			f.Params = append(f.Params, api.Param{Name: "v" + strconv.Itoa(k), Type: api.Int + d.n(5)})
		}
		m.fs = append(m.fs, f)
	}
	fs := append([]api.Func(nil), m.fs...)
	for i := range fs {
		m.result = fs[i].Result
		fs[i].Body = m.block(3, fs[i].Params...)
		if m.result != api.None {
			fs[i].Body = append(fs[i].Body, m.ending(d.n(3)))
		}
	}
	return fs
}

// P2.1 to P2.7: functions that fit are not refused.
func TestDrawnFunctions(t *testing.T) {
	d := die(5)
	for i := range 1000 {
		fs := d.functions()
		checkFuncs(t, i, fs, answer{0, api.OK})
		for _, f := range fs {
			if f.Result != api.None && !typed.Ends(f.Body) {
				t.Errorf("%v does not end", f)
			}
		}
	}
}

// fault: statements that fit nowhere, and why.
type fault struct {
	errno api.Errno
	l     []api.Stmt
}

func faults() []fault {
	return []fault{
		{api.ErrKind, block(doing(0))},
		{api.ErrCount, block(doing(api.Print))},
		{api.ErrNone, block(naming("zz", api.Set, num(1)))},
		{api.ErrForm, block(naming("9", api.Let, num(1)))},
		{api.ErrRange, block(doing(api.Print, num(math.MaxInt)))},
		{api.ErrType, block(doing(api.If, num(1)))},
		{api.ErrTwice, block(naming("zz", api.Let, num(1)), naming("zz", api.Let, num(1)))},
		{api.ErrSize, block(doing(api.Print, text(string(make([]byte, api.MaxSource+1)))))},
		{api.ErrDeep, block(doing(api.Print, wrapped(num(1), 200, wraps()[0])))},
		{api.ErrUse, block(api.Stmt{Kind: api.Switch, Exprs: make1(1, num(1)), Else: block(doing(api.Break))})},
	}
}

// spoiler puts statements at places of blocks, which are counted from the first one on.
type spoiler struct {
	next  int
	put   map[int][]api.Stmt
	loops int
	free  []int // places that are in no loop
}

func (p *spoiler) place() []api.Stmt {
	if p.loops == 0 {
		p.free = append(p.free, p.next)
	}
	p.next++
	return p.put[p.next-1]
}

func (p *spoiler) block(l []api.Stmt) []api.Stmt {
	var out []api.Stmt
	for _, s := range l {
		out = append(out, p.place()...)
		if s.Kind == api.For || s.Kind == api.Range {
			p.loops++
		}
		switch s.Kind {
		case api.If, api.For, api.Range:
			s.Body = p.block(s.Body)
		}
		if s.Kind == api.For || s.Kind == api.Range {
			p.loops--
		}
		cases := append([]api.Case(nil), s.Cases...)
		for i := range cases {
			cases[i].Body = p.block(cases[i].Body)
		}
		s.Cases = cases
		if s.Kind == api.If || s.Kind == api.Switch {
			s.Else = p.block(s.Else)
		}
		out = append(out, s)
	}
	return append(out, p.place()...)
}

// spoilt functions, and in which one of them each place is.
func (p *spoiler) functions(fs []api.Func) ([]api.Func, []int) {
	var in []int
	out := append([]api.Func(nil), fs...)
	for i := range out {
		out[i].Body = p.block(out[i].Body)
		for len(in) < p.next {
			in = append(in, i)
		}
	}
	return out, in
}

// P2.1 to P2.6: what is wrong first is told, with the function in which it is.
func TestSpoiltFunctions(t *testing.T) {
	d := die(11)
	for range 200 {
		fs := d.functions()
		look := &spoiler{}
		_, in := look.functions(fs)
		for _, f := range faults() {
			at := d.n(look.next)
			if f.errno == api.ErrUse {
				at = look.free[d.n(len(look.free))]
			}
			put := map[int][]api.Stmt{at + d.n(look.next-at): faults()[d.n(len(faults()))].l} // another one behind it
			put[at] = f.l
			spoilt, _ := (&spoiler{put: put}).functions(fs)
			checkFuncs(t, put, spoilt, answer{in[at], f.errno})
		}
	}
}

// wild trees: of whatever numbers and names.
func (d *die) wildExpr(n int) api.Expr {
	e := api.Expr{Kind: d.n(14), N: d.n(4) - 1, S: []string{"v1", "main", "+", "-", "==", "", "f1", "!"}[d.n(8)]}
	for range d.n(4) {
		if n > 0 {
			e.Args = append(e.Args, d.wildExpr(n-1))
		}
	}
	return e
}

func (d *die) wildBlock(n int) []api.Stmt {
	var l []api.Stmt
	for range d.n(4) {
		s := api.Stmt{Kind: d.n(15), S: []string{"v1", "v2", "", "if"}[d.n(4)], T: "v3"}
		for range d.n(3) {
			s.Exprs = append(s.Exprs, d.wildExpr(d.n(3)))
		}
		if n > 0 {
			s.Body, s.Else = d.wildBlock(n-1), d.wildBlock(n-1)
			for i := range d.n(3) {
				s.Cases = append(s.Cases, api.Case{Nums: make([]int, d.n(3)), Body: d.wildBlock(n - 1)})
				for k := range s.Cases[i].Nums {
					s.Cases[i].Nums[k] = d.n(9)
				}
			}
		}
		l = append(l, s)
	}
	return l
}

func (d *die) wildFunctions() []api.Func {
	var fs []api.Func
	for i := range d.n(4) {
		f := api.Func{Name: []string{"main", "f1", "f2", "f3", ""}[(i+d.n(20)/19)%5], Body: d.wildBlock(2)}
		if i > 0 {
			f.Result = d.n(6)
			for range d.n(3) {
				f.Params = append(f.Params, api.Param{Name: "v" + strconv.Itoa(d.n(5)), Type: d.n(6)})
			}
		}
		fs = append(fs, f)
	}
	return fs
}

// Every call ends, none panics; what is handed in stays as it is, and the answer hangs on it alone.
func TestWildFunctions(t *testing.T) {
	d := die(17)
	seen := map[api.Errno]int{}
	for i := range 6000 {
		fs := d.wildFunctions()
		if i%4 == 0 {
			fs = spoilOne(&d, d.functions())
		}
		was := copied(fs)
		at, errno := typed.Check(fs)
		if again, e := typed.Check(was); again != at || e != errno {
			t.Errorf("%v: %d, %v and %d, %v", fs, at, errno, again, e)
		}
		if !reflect.DeepEqual(fs, was) {
			t.Errorf("changed: %v; it was %v", fs, was)
		}
		if at < 0 || at > 0 && (at >= len(fs) || errno == api.OK) {
			t.Errorf("%v: place %d with %v", fs, at, errno)
		}
		seen[errno]++
		for _, f := range fs {
			typed.Ends(f.Body)
		}
	}
	for _, e := range []api.Errno{api.OK, api.ErrKind, api.ErrForm, api.ErrNone, api.ErrTwice, api.ErrType, api.ErrCount, api.ErrFall, api.ErrUse} {
		if seen[e] == 0 {
			t.Errorf("%v was not drawn", e)
		}
	}
}

// spoilOne: with a wild block somewhere.
func spoilOne(d *die, fs []api.Func) []api.Func {
	look := &spoiler{}
	look.functions(fs)
	out, _ := (&spoiler{put: map[int][]api.Stmt{d.n(look.next): d.wildBlock(1)}}).functions(fs)
	return out
}

// copied: the same in new memory.
func copied(fs []api.Func) []api.Func {
	return copyOf(reflect.ValueOf(fs)).Interface().([]api.Func)
}

func copyOf(v reflect.Value) reflect.Value {
	out := reflect.New(v.Type()).Elem()
	switch v.Kind() {
	case reflect.Slice:
		if v.IsNil() {
			return out
		}
		out.Set(reflect.MakeSlice(v.Type(), v.Len(), v.Len()))
		for i := range v.Len() {
			out.Index(i).Set(copyOf(v.Index(i)))
		}
	case reflect.Struct:
		for i := range v.NumField() {
			out.Field(i).Set(copyOf(v.Field(i)))
		}
	default:
		out.Set(v)
	}
	return out
}
