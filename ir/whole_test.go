package ir_test

import (
	"math/rand"
	"reflect"
	"slices"
	"strconv"
	"testing"

	"postern/api"
	"postern/ir"
)

// drawer draws programs, and things that may be wrong with them.
type drawer struct{ *rand.Rand }

// one of these.
func one[T any](d drawer, l ...T) T { return l[d.Intn(len(l))] }

func (d drawer) list(n, most int) []int {
	l := make([]int, n)
	for i := range l {
		l[i] = d.Intn(most)
	}
	return l
}

// program of functions that may call each other.
func (d drawer) program() api.Program {
	p := api.Program{Data: d.list(d.Intn(5), 300)}
	for i := range 1 + d.Intn(3) {
		c := api.Code{Name: "f" + strconv.Itoa(i), Params: d.Intn(3), Results: d.Intn(3)}
		if i == 0 {
			c.Params, c.Results = 0, 0
		}
		c.Vars = c.Params + 1 + d.Intn(4)
		p.Funcs = append(p.Funcs, c)
	}
	for i := range p.Funcs {
		c := &p.Funcs[i]
		c.Blocks = make([][]api.Instr, 1+d.Intn(5))
		for b := range c.Blocks {
			for range d.Intn(7) {
				c.Blocks[b] = append(c.Blocks[b], d.inner(p.Funcs, *c))
			}
			c.Blocks[b] = append(c.Blocks[b], d.last(*c))
		}
	}
	return p
}

// inner: an instruction that does not end a block.
func (d drawer) inner(fs []api.Code, c api.Code) api.Instr {
	v := func() int { return d.Intn(c.Vars) }
	switch d.Intn(9) {
	case 0, 1:
		return set(v(), one(d, 0, 1, 2, 3, 65, -1, 300, least, greatest))
	case 2:
		return move(v(), v())
	case 3:
		return calc(v(), v(), one(d, "+", "-", "*", "/", "%", "==", "!=", "<", "<=", ">", ">="), v())
	case 4:
		return load(v(), v(), d.Intn(4)-1)
	case 5:
		return store(v(), d.Intn(4)-1, v())
	case 6:
		return alloc(v(), v())
	case 7:
		return one(d, show("int", v()), show("bool", v()), show("text", v(), v()))
	}
	f := one(d, fs...)
	if f.Results > c.Vars {
		return move(v(), v())
	}
	return invoke(f.Name, d.Perm(c.Vars)[:f.Results], d.list(f.Params, c.Vars)...)
}

func (d drawer) last(c api.Code) api.Instr {
	n := len(c.Blocks)
	switch d.Intn(6) {
	case 0:
		return jump(d.Intn(n))
	case 1, 2:
		return choose(d.Intn(c.Vars), d.Intn(n), d.Intn(n))
	case 3:
		return pick(d.Intn(c.Vars), d.list(1+d.Intn(4), n)...)
	case 4:
		if d.Intn(4) == 0 {
			return fail(api.BadAt + d.Intn(4))
		}
	}
	return back(d.list(c.Results, c.Vars)...)
}

// player does a program in the plainest way: a call of a function is one of play.
type player struct {
	p     api.Program
	heap  []int
	room  int
	fuel  int
	lines []string
	depth int
}

// ending of a run: what play panics with.
type ending int

func played(p api.Program, room, fuel int) (r api.Run) {
	l := &player{p: p, heap: append([]int(nil), p.Data...), room: room, fuel: fuel}
	defer func() {
		r = api.Run{Lines: l.lines, End: int(recover().(ending))}
	}()
	l.play(p.Funcs[0].Name, nil)
	panic(ending(api.Done))
}

func (l *player) must(so bool, end int) {
	if !so {
		panic(ending(end))
	}
}

func (l *player) play(name string, args []int) []int {
	c := l.p.Funcs[slices.IndexFunc(l.p.Funcs, func(c api.Code) bool { return c.Name == name })]
	l.depth++
	defer func() { l.depth-- }()
	vars := make([]int, c.Vars)
	copy(vars, args)
	block, at := 0, 0
	for {
		l.must(l.fuel > 0, api.Spent)
		l.fuel--
		in := c.Blocks[block][at]
		at++
		var as []int
		for _, a := range in.As {
			as = append(as, vars[a])
		}
		switch in.Op {
		case api.Back:
			return as
		case api.Jump:
			block, at = in.To[0], 0
		case api.Choose:
			block, at = in.To[1], 0
			if as[0] != 0 {
				block = in.To[0]
			}
		case api.Pick:
			block, at = in.To[len(in.To)-1], 0
			for i, to := range in.To {
				if as[0] == i {
					block = to
				}
			}
		default:
			for i, n := range l.done(in, as) {
				vars[in.Ds[i]] = n
			}
		}
	}
}

// done: the results of an instruction with these arguments.
func (l *player) done(in api.Instr, as []int) []int {
	switch in.Op {
	case api.Const:
		return []int{in.N}
	case api.Math:
		n, ok := result(in.S, as[0], as[1])
		l.must(ok, api.BadZero)
		return []int{n}
	case api.Load, api.Store:
		l.must(as[0] >= 0 && as[0]+in.N >= 0 && as[0]+in.N < len(l.heap), api.BadAt)
		if in.Op == api.Store {
			l.heap[as[0]+in.N] = as[1]
			return nil
		}
		return []int{l.heap[as[0]+in.N]}
	case api.Alloc:
		l.must(as[0] >= 0, api.BadAt)
		l.must(as[0] <= l.room && len(l.heap)+as[0] <= l.room, api.BadRoom)
		l.heap = append(l.heap, make([]int, as[0])...)
		return []int{len(l.heap) - as[0]}
	case api.Invoke:
		l.must(l.depth < api.MaxCalls, api.BadDeep)
		return l.play(in.S, as)
	case api.Show:
		l.print(in.S, as)
		return nil
	case api.Fail:
		l.must(false, in.N)
	}
	return as
}

func (l *player) print(kind string, as []int) {
	l.must(len(l.lines) < api.MaxPrint, api.BadLong)
	line := strconv.Itoa(as[0])
	switch kind {
	case "bool":
		line = strconv.FormatBool(as[0] != 0)
	case "text":
		line = ""
		l.must(as[1] >= 0, api.BadAt)
		for i := range as[1] {
			l.must(as[0] >= 0 && as[0] < len(l.heap)-i, api.BadAt)
			line += string([]byte{byte(l.heap[as[0]+i] & 255)})
		}
	}
	l.lines = append(l.lines, line)
}

func TestDrawnPrograms(t *testing.T) {
	d := drawer{rand.New(rand.NewSource(3))}
	ends := map[int]int{}
	for i := range 20000 {
		p := d.program()
		heap, fuel := len(p.Data)+d.Intn(20), d.Intn(300)
		got, errno := ir.Run(p, heap, fuel)
		want := played(p, heap, fuel)
		if errno != api.OK || got.End != want.End || !slices.Equal(got.Lines, want.Lines) {
			t.Fatalf("case %d: %v, %v; want %v: %+v", i, got, errno, want, p)
		}
		ends[got.End]++
	}
	for _, end := range []int{api.Done, api.BadAt, api.BadZero, api.BadDeep, api.BadRoom, api.Spent} {
		if ends[end] < 20 {
			t.Errorf("only %d programs ended by %d", ends[end], end)
		}
	}
}

// spoil one thing of a program, or none.
func (d drawer) spoil(p *api.Program) {
	number := func() int { return one(d, least, -1, 0, 1, 2, 3, 5, 16, 17, 3001, greatest) }
	text := func() string { return one(d, "", "f0", "f1", "f2", "f9", "+", "int", "bool", "text", "?") }
	c := &p.Funcs[d.Intn(len(p.Funcs))]
	b := d.Intn(len(c.Blocks))
	in := &c.Blocks[b][d.Intn(len(c.Blocks[b]))]
	list := one(d, &in.Ds, &in.As, &in.To)
	switch d.Intn(16) {
	case 0:
		c.Params = number()
	case 1:
		c.Results = number()
	case 2:
		c.Vars = number()
	case 3:
		c.Slots = number()
	case 4:
		c.Name = text()
	case 5:
		c.Blocks[b] = nil
	case 6:
		c.Blocks = c.Blocks[:b]
	case 7:
		c.Blocks[b] = append(c.Blocks[b], *in)
	case 8:
		p.Funcs = p.Funcs[:d.Intn(len(p.Funcs))]
	case 9:
		in.Op = one(d, number(), 1+d.Intn(15), api.LoadSlot, api.StoreSlot)
	case 10:
		in.N = number()
	case 11, 12:
		in.S = text()
	case 13:
		*list = append(*list, number())
	case 14, 15:
		if len(*list) > 0 && d.Intn(3) == 0 {
			*list = (*list)[1:]
		} else if len(*list) > 0 {
			(*list)[d.Intn(len(*list))] = number()
		}
	}
}

// rules: the first one that is broken is the answer.
type rules []struct {
	broken bool
	errno  api.Errno
}

func (l rules) answer() api.Errno {
	for _, r := range l {
		if r.broken {
			return r.errno
		}
	}
	return api.OK
}

// ruledProgram: what P3.3 says, by rules.
func ruledProgram(p api.Program) api.Errno {
	if len(p.Funcs) == 0 {
		return api.ErrNone
	}
	twice := false
	for i, c := range p.Funcs {
		twice = twice || slices.ContainsFunc(p.Funcs[:i], func(o api.Code) bool { return o.Name == c.Name })
	}
	l := rules{
		{len(p.Data) > 20000 || len(p.Funcs) > 40, api.ErrSize},
		{twice, api.ErrTwice},
		{p.Funcs[0].Params+p.Funcs[0].Results != 0, api.ErrCount},
	}
	for _, c := range p.Funcs {
		errno := ruledCode(p, c)
		l = append(l, rules{{errno != api.OK, errno}}...)
	}
	return l.answer()
}

// ruledCode: what P3.2 says, by rules.
func ruledCode(p api.Program, c api.Code) api.Errno {
	l := rules{
		{len(c.Blocks) == 0, api.ErrNone},
		{len(c.Blocks) > 2000 || c.Vars > 3000 || c.Params > 16 || c.Results > 16, api.ErrSize},
		{c.Params < 0 || c.Results < 0 || c.Vars < c.Params || c.Slots != 0, api.ErrRange},
	}
	for _, b := range c.Blocks {
		l = append(l, rules{{len(b) == 0, api.ErrNone}}...)
		for i, in := range b {
			ends := in.Op == api.Jump || in.Op == api.Choose || in.Op == api.Pick || in.Op == api.Back || in.Op == api.Fail
			l = append(l, ruledInstr(p, c, in)...)
			l = append(l, rules{{ends && i < len(b)-1 || !ends && i == len(b)-1, api.ErrForm}}...)
		}
	}
	return l.answer()
}

// ruledInstr: what P3.1 says, by rules.
func ruledInstr(p api.Program, c api.Code, in api.Instr) rules {
	beyond := func(l []int, most int) bool {
		return slices.ContainsFunc(l, func(n int) bool { return n < 0 || n >= most })
	}
	texts := map[int][]string{
		api.Math: {"+", "-", "*", "/", "%", "==", "!=", "<", "<=", ">", ">="},
		api.Show: {"int", "bool", "text"},
	}
	l := rules{
		{in.Op < 1 || in.Op > 13, api.ErrKind},
		{in.Op != api.Show && !mayHave(in.Op, len(in.Ds), len(in.As), len(in.To)), api.ErrCount},
		{in.Op == api.Show && len(in.Ds)+len(in.To) > 0, api.ErrCount},
		{beyond(in.Ds, c.Vars) || beyond(in.As, c.Vars) || beyond(in.To, len(c.Blocks)), api.ErrRange},
		{texts[in.Op] != nil && !slices.Contains(texts[in.Op], in.S), api.ErrForm},
		{in.Op == api.Fail && !slices.Contains([]int{2, 3, 4, 5}, in.N), api.ErrForm},
		{in.Op == api.Show && in.S == "text" && len(in.As) != 2, api.ErrCount},
		{in.Op == api.Show && in.S != "text" && len(in.As) != 1, api.ErrCount},
		{in.Op == api.Back && len(in.As) != c.Results, api.ErrCount},
	}
	if in.Op != api.Invoke {
		return l
	}
	at := slices.IndexFunc(p.Funcs, func(c api.Code) bool { return c.Name == in.S })
	if at < 0 {
		return append(l, rules{{true, api.ErrNone}}...)
	}
	sorted := slices.Sorted(slices.Values(in.Ds))
	return append(l, rules{
		{len(in.As) != p.Funcs[at].Params || len(in.Ds) != p.Funcs[at].Results, api.ErrCount},
		{len(slices.Compact(sorted)) < len(in.Ds), api.ErrTwice},
	}...)
}

func TestSpoiltPrograms(t *testing.T) {
	d := drawer{rand.New(rand.NewSource(4))}
	found := map[api.Errno]int{}
	for i := range 40000 {
		p := d.program()
		for range d.Intn(3) {
			if len(p.Funcs) > 0 && !slices.ContainsFunc(p.Funcs, hasHole) {
				d.spoil(&p)
			}
		}
		got, want := ir.Check(p), ruledProgram(p)
		if got != want {
			t.Fatalf("case %d: %v, want %v: %+v", i, got, want, p)
		}
		for _, c := range p.Funcs {
			if got, want := ir.CheckCode(p, c), ruledCode(p, c); got != want {
				t.Fatalf("case %d: code: %v, want %v: %+v of %+v", i, got, want, c, p)
			}
		}
		if r, errno := ir.Run(p, len(p.Data), 100); errno != want || want != api.OK && !reflect.DeepEqual(r, api.Run{}) {
			t.Fatalf("case %d: run: %v, %v, want %v: %+v", i, r, errno, want, p)
		}
		found[got]++
	}
	for _, errno := range []api.Errno{api.OK, api.ErrSize, api.ErrRange, api.ErrKind, api.ErrForm, api.ErrNone, api.ErrTwice, api.ErrCount} {
		if found[errno] < 20 {
			t.Errorf("only %d answers were %v", found[errno], errno)
		}
	}
}

// hasHole: there is a block, or a function, without anything that can be spoilt.
func hasHole(c api.Code) bool {
	return len(c.Blocks) == 0 || slices.ContainsFunc(c.Blocks, func(b []api.Instr) bool { return len(b) == 0 })
}

// roomy: a copy of a list with spare room that has numbers in it; all of it is kept in rooms, too.
func roomy(l []int, rooms *[][]int) []int {
	room := append(slices.Clone(l), 71, 72, 73)
	*rooms = append(*rooms, room)
	return room[:len(l)]
}

// TestArgumentsStay: neither lists that are handed in nor their spare room are changed.
func TestArgumentsStay(t *testing.T) {
	d := drawer{rand.New(rand.NewSource(5))}
	for range 3000 {
		p := d.program()
		var rooms [][]int
		p.Data = roomy(p.Data, &rooms)
		for _, c := range p.Funcs {
			for _, b := range c.Blocks {
				for i := range b {
					b[i].Ds, b[i].As, b[i].To = roomy(b[i].Ds, &rooms), roomy(b[i].As, &rooms), roomy(b[i].To, &rooms)
				}
			}
		}
		old := copied(p)
		var oldRooms [][]int
		for _, room := range rooms {
			oldRooms = append(oldRooms, slices.Clone(room))
		}
		first, _ := ir.Run(p, len(p.Data)+20, 300)
		ir.Check(p)
		ir.CheckCode(p, p.Funcs[0])
		if !reflect.DeepEqual(rooms, oldRooms) || !reflect.DeepEqual(p, old) {
			t.Fatalf("changed: %+v, was %+v", p, old)
		}
		second, _ := ir.Run(p, len(p.Data)+20, 300)
		if !reflect.DeepEqual(first, second) {
			t.Fatalf("two answers: %v, %v: %+v", first, second, p)
		}
		for i := range first.Lines {
			first.Lines[i] = "changed"
		}
		third, _ := ir.Run(p, len(p.Data)+20, 300)
		if !reflect.DeepEqual(third, second) {
			t.Fatalf("answers share memory: %v, %v", third, second)
		}
	}
}

// copied: a program that shares no memory with this one.
func copied(p api.Program) api.Program {
	p.Data, p.Funcs = slices.Clone(p.Data), slices.Clone(p.Funcs)
	for i := range p.Funcs {
		blocks := slices.Clone(p.Funcs[i].Blocks)
		for j, b := range blocks {
			blocks[j] = slices.Clone(b)
			for k, in := range b {
				blocks[j][k].Ds, blocks[j][k].As, blocks[j][k].To = slices.Clone(in.Ds), slices.Clone(in.As), slices.Clone(in.To)
			}
		}
		p.Funcs[i].Blocks = blocks
	}
	return p
}
