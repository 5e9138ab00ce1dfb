package vm_test

import (
	"reflect"
	"slices"
	"strconv"
	"testing"

	"postern/api"
	"postern/ir"
	"postern/vm"
)

// drawnProgram: functions that may call each other.
func drawnProgram(d *die) api.Program {
	p := api.Program{Data: d.list(d.n(5), 300)}
	for i := range 1 + d.n(3) {
		c := api.Code{Name: "f" + strconv.Itoa(i), Params: d.n(4), Results: d.n(4), Vars: 1 + d.n(api.Regs)}
		if i == 0 {
			c.Params, c.Results = 0, 0
		}
		c.Slots = c.Params + 1 + d.n(5)
		p.Funcs = append(p.Funcs, c)
	}
	for i := range p.Funcs {
		c := &p.Funcs[i]
		c.Blocks = make([][]api.Instr, 1+d.n(5))
		for b := range c.Blocks {
			for range d.n(9) {
				c.Blocks[b] = append(c.Blocks[b], drawnInner(d, p.Funcs, *c))
			}
			c.Blocks[b] = append(c.Blocks[b], drawnEnd(d, *c))
		}
	}
	return p
}

// drawnInner: an instruction that does not end a block.
func drawnInner(d *die, fs []api.Code, c api.Code) api.Instr {
	r := func() int { return d.n(c.Vars) }
	switch d.n(20) {
	case 0, 1, 2:
		return set(r(), one(d, 0, 1, 2, 3, 65, -1, 300, least, greatest))
	case 3:
		return move(r(), r())
	case 4, 5, 6:
		return calc(r(), r(), one(d, "+", "-", "*", "/", "%", "==", "!=", "<", "<=", ">", ">="), r())
	case 7:
		return load(r(), r(), d.n(4)-1)
	case 8:
		return store(r(), d.n(4)-1, r())
	case 9:
		return alloc(r(), r())
	case 10:
		return one(d, show("bool", r()), show("text", r(), r()))
	case 11, 12:
		return show("int", r())
	case 13, 14, 15:
		return from(r(), d.n(c.Slots))
	case 16, 17:
		return keep(d.n(c.Slots), r())
	}
	f := one(d, fs...)
	if f.Results > c.Slots {
		return keep(d.n(c.Slots), r())
	}
	return invoke(f.Name, d.different(f.Results, c.Slots), d.list(f.Params, c.Slots)...)
}

func drawnEnd(d *die, c api.Code) api.Instr {
	n := len(c.Blocks)
	switch d.n(7) {
	case 0, 1:
		return jump(d.n(n))
	case 2, 3:
		return choose(d.n(c.Vars), d.n(n), d.n(n))
	case 4:
		return pick(d.n(c.Vars), d.list(1+d.n(4), n)...)
	case 5:
		if d.n(4) == 0 {
			return fail(api.BadAt + d.n(4))
		}
	}
	return back(d.list(c.Results, c.Slots)...)
}

// asCode: the function as code whose first variables are the slots, and the others the registers.
func asCode(c api.Code) api.Code {
	slots := c.Slots
	reg := func(l []int) []int {
		l = slices.Clone(l)
		for i := range l {
			l[i] += slots
		}
		return l
	}
	c.Vars, c.Slots = slots+c.Vars, 0
	blocks := make([][]api.Instr, len(c.Blocks))
	for b, block := range c.Blocks {
		for _, in := range block {
			switch in.Op {
			case api.Invoke, api.Back:
			case api.LoadSlot:
				in = move(slots+in.Ds[0], in.N)
			case api.StoreSlot:
				in = move(in.N, slots+in.As[0])
			default:
				in.Ds, in.As = reg(in.Ds), reg(in.As)
			}
			blocks[b] = append(blocks[b], in)
		}
	}
	c.Blocks = blocks
	return c
}

// TestDrawnPrograms: they do what the same code does whose variables are the slots and registers, step by step.
func TestDrawnPrograms(t *testing.T) {
	d := die(3)
	ends, lines := map[int]int{}, 0
	for i := range 20000 {
		p := drawnProgram(&d)
		heap, fuel := len(p.Data)+d.n(20), d.n(300)
		q := p
		q.Funcs = nil
		for _, c := range p.Funcs {
			q.Funcs = append(q.Funcs, asCode(c))
		}
		want, errno := ir.Run(q, heap, fuel)
		if errno != api.OK {
			t.Fatalf("case %d: %v: %+v", i, errno, q)
		}
		got, errno := vm.Run(p, heap, fuel)
		if errno != api.OK || got.End != want.End || !slices.Equal(got.Lines, want.Lines) {
			t.Fatalf("case %d: %v, %v; want %v: %+v", i, got, errno, want, p)
		}
		ends[got.End]++
		lines += len(got.Lines)
	}
	for _, end := range []int{api.Done, api.BadAt, api.BadZero, api.BadDeep, api.BadRoom, api.Spent} {
		if ends[end] < 20 {
			t.Errorf("only %d programs ended by %d", ends[end], end)
		}
	}
	if lines < 20000 {
		t.Errorf("only %d lines were printed", lines)
	}
}

// spoil one thing of a program, or none.
func spoil(d *die, p *api.Program) {
	number := func() int { return one(d, least, -1, 0, 1, 2, 3, 5, 7, 8, 9, 16, 17, 3000, 3001, greatest) }
	text := func() string { return one(d, "", "f0", "f1", "f2", "f9", "+", "int", "bool", "text", "?") }
	c := &p.Funcs[d.n(len(p.Funcs))]
	b := d.n(len(c.Blocks))
	in := &c.Blocks[b][d.n(len(c.Blocks[b]))]
	list := one(d, &in.Ds, &in.As, &in.To)
	switch d.n(16) {
	case 0:
		c.Params = number()
	case 1:
		c.Results = number()
	case 2:
		c.Vars = number()
	case 3:
		c.Slots = number()
	case 4:
		c.Name = text()
	case 5:
		c.Blocks[b] = nil
	case 6:
		c.Blocks = c.Blocks[:b]
	case 7:
		c.Blocks[b] = append(c.Blocks[b], *in)
	case 8:
		p.Funcs = p.Funcs[:d.n(len(p.Funcs))]
	case 9:
		in.Op = one(d, number(), 1+d.n(15), api.LoadSlot, api.StoreSlot)
	case 10:
		in.N = number()
	case 11:
		in.S = text()
	case 12, 13:
		*list = append(*list, number())
	case 14, 15:
		if len(*list) > 0 && d.n(3) == 0 {
			*list = (*list)[1:]
		} else if len(*list) > 0 {
			(*list)[d.n(len(*list))] = number()
		}
	}
}

// hasHole: there is a block, or a function, without anything that can be spoilt.
func hasHole(c api.Code) bool {
	return len(c.Blocks) == 0 || slices.ContainsFunc(c.Blocks, func(b []api.Instr) bool { return len(b) == 0 })
}

// rules: the first one that is broken is the answer.
type rules []struct {
	broken bool
	errno  api.Errno
}

func (l rules) answer() api.Errno {
	for _, r := range l {
		if r.broken {
			return r.errno
		}
	}
	return api.OK
}

// ruledProgram: what P3.3 says, by rules.
func ruledProgram(p api.Program) api.Errno {
	if len(p.Funcs) == 0 {
		return api.ErrNone
	}
	twice := false
	for i, c := range p.Funcs {
		twice = twice || slices.ContainsFunc(p.Funcs[:i], func(o api.Code) bool { return o.Name == c.Name })
	}
	l := rules{
		{len(p.Data) > 20000 || len(p.Funcs) > 40, api.ErrSize},
		{twice, api.ErrTwice},
		{p.Funcs[0].Params+p.Funcs[0].Results != 0, api.ErrCount},
	}
	for _, c := range p.Funcs {
		errno := ruledCode(p, c)
		l = append(l, rules{{errno != api.OK, errno}}...)
	}
	return l.answer()
}

// ruledCode: what P3.2 and P7.2 say, by rules.
func ruledCode(p api.Program, c api.Code) api.Errno {
	l := rules{
		{len(c.Blocks) == 0, api.ErrNone},
		{len(c.Blocks) > 2000 || c.Vars > 8 || c.Slots > 3000 || c.Params > 16 || c.Results > 16, api.ErrSize},
		{c.Params < 0 || c.Results < 0 || c.Vars < 0 || c.Slots < c.Params, api.ErrRange},
	}
	for _, b := range c.Blocks {
		l = append(l, rules{{len(b) == 0, api.ErrNone}}...)
		for i, in := range b {
			l = append(l, ruledInstr(p, c, in)...)
			l = append(l, rules{{endsBlock(in.Op) != (i == len(b)-1), api.ErrForm}}...)
		}
	}
	return l.answer()
}

// ruledInstr: what P3.1 and P7.1 say, by rules.
func ruledInstr(p api.Program, c api.Code, in api.Instr) rules {
	beyond := func(l []int, most int) bool {
		return slices.ContainsFunc(l, func(n int) bool { return n < 0 || n >= most })
	}
	texts := map[int][]string{
		api.Math: {"+", "-", "*", "/", "%", "==", "!=", "<", "<=", ">", ">="},
		api.Show: {"int", "bool", "text"},
	}
	calls := in.Op == api.Invoke || in.Op == api.Back
	slot := in.Op == api.LoadSlot || in.Op == api.StoreSlot
	l := rules{
		{!slices.Contains(allOps, in.Op), api.ErrKind},
		{in.Op != api.Show && !mayHave(in.Op, len(in.Ds), len(in.As), len(in.To)), api.ErrCount},
		{in.Op == api.Show && len(in.Ds)+len(in.To) > 0, api.ErrCount},
		{!calls && (beyond(in.Ds, c.Vars) || beyond(in.As, c.Vars)), api.ErrRange},
		{calls && (beyond(in.Ds, c.Slots) || beyond(in.As, c.Slots)), api.ErrRange},
		{beyond(in.To, len(c.Blocks)) || slot && (in.N < 0 || in.N >= c.Slots), api.ErrRange},
		{texts[in.Op] != nil && !slices.Contains(texts[in.Op], in.S), api.ErrForm},
		{in.Op == api.Fail && !slices.Contains([]int{2, 3, 4, 5}, in.N), api.ErrForm},
		{in.Op == api.Show && in.S == "text" && len(in.As) != 2, api.ErrCount},
		{in.Op == api.Show && in.S != "text" && len(in.As) != 1, api.ErrCount},
		{in.Op == api.Back && len(in.As) != c.Results, api.ErrCount},
	}
	if in.Op != api.Invoke {
		return l
	}
	at := slices.IndexFunc(p.Funcs, func(c api.Code) bool { return c.Name == in.S })
	if at < 0 {
		return append(l, rules{{true, api.ErrNone}}...)
	}
	sorted := slices.Sorted(slices.Values(in.Ds))
	return append(l, rules{
		{len(in.As) != p.Funcs[at].Params || len(in.Ds) != p.Funcs[at].Results, api.ErrCount},
		{len(slices.Compact(sorted)) < len(in.Ds), api.ErrTwice},
	}...)
}

func TestSpoiltPrograms(t *testing.T) {
	d := die(4)
	found := map[api.Errno]int{}
	for i := range 60000 {
		p := drawnProgram(&d)
		for range d.n(3) {
			if len(p.Funcs) > 0 && !slices.ContainsFunc(p.Funcs, hasHole) {
				spoil(&d, &p)
			}
		}
		got, want := vm.Check(p), ruledProgram(p)
		if got != want {
			t.Fatalf("case %d: %v, want %v: %+v", i, got, want, p)
		}
		if r, errno := vm.Run(p, len(p.Data), 100); errno != want || want != api.OK && !reflect.DeepEqual(r, api.Run{}) {
			t.Fatalf("case %d: run: %v, %v, want %v: %+v", i, r, errno, want, p)
		}
		found[got]++
	}
	for _, errno := range []api.Errno{api.OK, api.ErrSize, api.ErrRange, api.ErrKind, api.ErrForm, api.ErrNone, api.ErrTwice, api.ErrCount} {
		if found[errno] < 20 {
			t.Errorf("only %d answers were %v", found[errno], errno)
		}
	}
}

// roomy: a copy of a list with spare room that has numbers in it; all of it is kept in rooms, too.
func roomy(l []int, rooms *[][]int) []int {
	room := append(slices.Clone(l), 71, 72, 73)
	*rooms = append(*rooms, room)
	return room[:len(l)]
}

// copied: a program that shares no memory with this one.
func copied(p api.Program) api.Program {
	p.Data, p.Funcs = slices.Clone(p.Data), slices.Clone(p.Funcs)
	for i := range p.Funcs {
		blocks := slices.Clone(p.Funcs[i].Blocks)
		for j, b := range blocks {
			blocks[j] = slices.Clone(b)
			for k, in := range b {
				blocks[j][k].Ds, blocks[j][k].As, blocks[j][k].To = slices.Clone(in.Ds), slices.Clone(in.As), slices.Clone(in.To)
			}
		}
		p.Funcs[i].Blocks = blocks
	}
	return p
}

// TestArgumentsStay: neither lists that are handed in nor their spare room are changed, and answers share no memory.
func TestArgumentsStay(t *testing.T) {
	d := die(5)
	for range 3000 {
		p := drawnProgram(&d)
		var rooms [][]int
		p.Data = roomy(p.Data, &rooms)
		for _, c := range p.Funcs {
			for _, b := range c.Blocks {
				for i := range b {
					b[i].Ds, b[i].As, b[i].To = roomy(b[i].Ds, &rooms), roomy(b[i].As, &rooms), roomy(b[i].To, &rooms)
				}
			}
		}
		old := copied(p)
		var oldRooms [][]int
		for _, room := range rooms {
			oldRooms = append(oldRooms, slices.Clone(room))
		}
		first, _ := vm.Run(p, len(p.Data)+20, 300)
		vm.Check(p)
		if !reflect.DeepEqual(rooms, oldRooms) || !reflect.DeepEqual(p, old) {
			t.Fatalf("changed: %+v, was %+v", p, old)
		}
		second, _ := vm.Run(p, len(p.Data)+20, 300)
		if !reflect.DeepEqual(first, second) {
			t.Fatalf("two answers: %v, %v: %+v", first, second, p)
		}
		for i := range first.Lines {
			first.Lines[i] = "changed"
		}
		third, _ := vm.Run(p, len(p.Data)+20, 300)
		if !reflect.DeepEqual(third, second) {
			t.Fatalf("answers share memory: %v, %v", third, second)
		}
	}
}
