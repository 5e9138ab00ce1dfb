package lower_test

import (
	"strconv"
	"unicode/utf8"

	"postern/api"
)

// meaner does functions as they mean, without any code: Ints are ints, Bools bools, Strs strings, Slices lists, Maps *tables.
type meaner struct {
	fs    []api.Func
	words int // of the heap that are taken
	room  int
	calls int
	fuel  int
	lines []string
	vars  []map[string]any // of the call that is being done, scope by scope
}

// list: so many words of a memory that others may share.
type list struct {
	memory []int
	long   int
}

type entry struct {
	key, value int
	lives      bool
}

type table struct {
	entries []entry
	room    int
}

// over: how all ends; it is thrown.
type over int

// ways in which a statement ends.
const (
	goesOn = iota
	breaks
	continues
	returns
)

// mean: what functions print, and how they end, on a heap with so many words of Data.
func mean(fs []api.Func, data, room, fuel int) (r api.Run) {
	m := &meaner{fs: fs, words: data, room: room, fuel: fuel}
	defer func() {
		r = api.Run{Lines: m.lines, End: int(recover().(over))}
	}()
	m.call(fs[0].Name, nil)
	panic(over(api.Done))
}

func (m *meaner) must(so bool, end int) {
	if !so {
		panic(over(end))
	}
}

func (m *meaner) step() {
	m.must(m.fuel > 0, api.Spent)
	m.fuel--
}

func (m *meaner) alloc(words int) {
	m.must(words <= m.room-m.words, api.BadRoom)
	m.words += words
}

// aid: something is done by functions that all programs have, so many of them calling each other.
func (m *meaner) aid(calls int) { m.must(m.calls+calls <= api.MaxCalls, api.BadDeep) }

func (m *meaner) call(name string, args []any) any {
	m.must(m.calls < api.MaxCalls, api.BadDeep)
	m.calls++
	outer := m.vars
	var result any
	for _, f := range m.fs {
		if f.Name == name {
			params := map[string]any{}
			for i, p := range f.Params {
				params[p.Name] = args[i]
			}
			m.vars = []map[string]any{params}
			_, result = m.block(f.Body)
		}
	}
	m.vars = outer
	m.calls--
	return result
}

// scope in which a name is declared.
func (m *meaner) scope(name string) map[string]any {
	for i := len(m.vars) - 1; ; i-- {
		if _, ok := m.vars[i][name]; ok {
			return m.vars[i]
		}
	}
}

func (m *meaner) int(e api.Expr) int   { return m.value(e).(int) }
func (m *meaner) bool(e api.Expr) bool { return m.value(e).(bool) }

func (m *meaner) values(l []api.Expr) []any {
	var values []any
	for _, e := range l {
		values = append(values, m.value(e))
	}
	return values
}

func (m *meaner) value(e api.Expr) any {
	m.step()
	if e.Kind == api.Two && (e.S == "&&" || e.S == "||") {
		if first := m.bool(e.Args[0]); first != (e.S == "&&") {
			return first
		}
		return m.bool(e.Args[1])
	}
	args := m.values(e.Args)
	switch e.Kind {
	case api.Num:
		return e.N
	case api.Text:
		return e.S
	case api.Truth:
		return e.N == 1
	case api.Var:
		return m.scope(e.S)[e.S]
	case api.Two:
		return m.two(args[0], e.S, args[1])
	case api.One:
		if n, ok := args[0].(int); ok {
			return -n
		}
		return !args[0].(bool)
	case api.Call:
		return m.call(e.S, args)
	case api.Len:
		return length(args[0])
	case api.At:
		return m.at(args[0], args[1].(int))
	case api.Add:
		return m.add(args[0].(list), args[1].(int))
	case api.List:
		m.alloc(len(args))
		l := list{make([]int, len(args)), len(args)}
		for i, a := range args {
			l.memory[i] = a.(int)
		}
		return l
	}
	m.aid(1)
	m.alloc(16)
	return &table{room: 4}
}

func (m *meaner) two(a any, op string, b any) any {
	switch x := a.(type) {
	case bool:
		return (x == b.(bool)) == (op == "==")
	case string:
		m.aid(1)
		if op == "+" {
			m.alloc(len(x) + len(b.(string)))
			return x + b.(string)
		}
		return compared(x, op, b.(string))
	}
	x, y := a.(int), b.(int)
	switch op {
	case "+":
		return x + y
	case "-":
		return x - y
	case "*":
		return x * y
	case "/":
		m.must(y != 0, api.BadZero)
		return x / y
	case "%":
		m.must(y != 0, api.BadZero)
		return x % y
	}
	return compared(x, op, y)
}

func compared[T int | string](x T, op string, y T) bool {
	return map[string]bool{"==": x == y, "!=": x != y, "<": x < y, "<=": x <= y, ">": x > y, ">=": x >= y}[op]
}

func length(a any) int {
	switch x := a.(type) {
	case string:
		return len(x)
	case list:
		return x.long
	}
	live := 0
	for _, e := range a.(*table).entries {
		if e.lives {
			live++
		}
	}
	return live
}

func (m *meaner) at(a any, place int) int {
	if x, ok := a.(*table); ok {
		m.aid(2)
		if e := x.find(place); e != nil {
			return e.value
		}
		return 0
	}
	m.must(place >= 0 && place < length(a), api.BadAt)
	if x, ok := a.(string); ok {
		return int(x[place])
	}
	return a.(list).memory[place]
}

func (m *meaner) add(l list, n int) list {
	m.aid(1)
	if l.long == len(l.memory) {
		room := max(4, 2*l.long)
		m.alloc(room)
		l.memory = append(append([]int(nil), l.memory...), make([]int, room-l.long)...)
	}
	l.memory[l.long] = n
	l.long++
	return l
}

func (x *table) find(key int) *entry {
	for i := range x.entries {
		if e := &x.entries[i]; e.lives && e.key == key {
			return e
		}
	}
	return nil
}

func (m *meaner) put(a any, place, n int) {
	if l, ok := a.(list); ok {
		m.must(place >= 0 && place < l.long, api.BadAt)
		l.memory[place] = n
		return
	}
	m.aid(2)
	x := a.(*table)
	if e := x.find(place); e != nil {
		e.value = n
		return
	}
	if len(x.entries) == x.room {
		x.room *= 2
		m.alloc(3 * x.room)
	}
	x.entries = append(x.entries, entry{place, n, true})
}

// block of statements: how it ends, and what it returns.
func (m *meaner) block(l []api.Stmt) (int, any) {
	return m.scoped(map[string]any{}, func() (int, any) {
		for _, s := range l {
			if end, result := m.stmt(s); end != goesOn {
				return end, result
			}
		}
		return goesOn, nil
	})
}

// scoped: what is done knows these names, too.
func (m *meaner) scoped(names map[string]any, do func() (int, any)) (int, any) {
	outer := m.vars
	m.vars = append(outer[:len(outer):len(outer)], names)
	end, result := do()
	m.vars = outer
	return end, result
}

func (m *meaner) stmt(s api.Stmt) (int, any) {
	m.step()
	switch s.Kind {
	case api.If:
		if m.bool(s.Exprs[0]) {
			return m.block(s.Body)
		}
		return m.block(s.Else)
	case api.For:
		return m.rounds(func(round func() bool) {
			for m.bool(s.Exprs[0]) && round() {
			}
		}, s.Body)
	case api.Range:
		return m.ranging(s)
	case api.Switch:
		n := m.int(s.Exprs[0])
		for _, c := range s.Cases {
			for _, k := range c.Nums {
				if k == n {
					return m.block(c.Body)
				}
			}
		}
		return m.block(s.Else)
	case api.Break:
		return breaks, nil
	case api.Continue:
		return continues, nil
	}
	values := m.values(s.Exprs)
	switch s.Kind {
	case api.Let:
		m.vars[len(m.vars)-1][s.S] = values[0]
	case api.Set:
		m.scope(s.S)[s.S] = values[0]
	case api.Put:
		m.put(m.scope(s.S)[s.S], values[0].(int), values[1].(int))
	case api.Delete:
		m.aid(2)
		if e := m.scope(s.S)[s.S].(*table).find(values[0].(int)); e != nil {
			e.lives = false
		}
	case api.Print:
		m.print(values[0])
	case api.Return:
		if len(values) > 0 {
			return returns, values[0]
		}
		return returns, nil
	}
	return goesOn, nil
}

func (m *meaner) print(a any) {
	m.must(len(m.lines) < api.MaxPrint, api.BadLong)
	var line string
	switch x := a.(type) {
	case int:
		line = strconv.Itoa(x)
	case bool:
		line = strconv.FormatBool(x)
	case string:
		line = x
	}
	m.lines = append(m.lines, line)
}

// rounds of a loop, as all does them; a round tells whether there may be more.
func (m *meaner) rounds(all func(round func() bool), body []api.Stmt) (end int, result any) {
	all(func() bool {
		m.step()
		end, result = m.block(body)
		return end == goesOn || end == continues
	})
	if end != returns {
		end = goesOn
	}
	return end, result
}

func (m *meaner) ranging(s api.Stmt) (int, any) {
	value := m.value(s.Exprs[0])
	names := map[string]any{}
	return m.scoped(names, func() (int, any) {
		return m.rounds(func(round func() bool) {
			each(value, m, func(key, member int) bool {
				names[s.S], names[s.T] = key, member
				return round()
			})
		}, s.Body)
	})
}

// each key and member of a value, as long as there are more.
func each(value any, m *meaner, do func(key, member int) bool) {
	switch x := value.(type) {
	case int:
		for i := 0; i < x && do(i, i); i++ {
		}
	case string:
		for i := 0; i < len(x); {
			m.aid(1)
			r, bytes := utf8.DecodeRuneInString(x[i:])
			if !do(i, int(r)) {
				return
			}
			i += bytes
		}
	case list:
		for i := 0; i < x.long && do(i, x.memory[i]); i++ {
		}
	case *table:
		for i := 0; i < len(x.entries); i++ {
			m.step()
			if e := x.entries[i]; e.lives && !do(e.key, e.value) {
				return
			}
		}
	}
}
