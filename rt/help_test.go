package rt_test

import (
	"math"
	"strconv"
	"testing"

	"postern/api"
	"postern/emit"
	"postern/ir"
	"postern/rt"
)

const (
	least    = math.MinInt
	greatest = math.MaxInt
)

// program: a first function, as body makes it, and all others, on a heap that begins with some words.
func program(data []int, body func(m *emit.Maker)) api.Program {
	first := emit.Function("main", 0, 0, func(m *emit.Maker, _ []int) {
		body(m)
		m.Back()
	})
	return api.Program{Funcs: append([]api.Code{first}, rt.All()...), Data: data}
}

// wantInts: numbers that a program prints, and nothing else, till it is done.
func wantInts(t *testing.T, what any, data []int, body func(m *emit.Maker) []int) {
	t.Helper()
	var want []int
	p := program(data, func(m *emit.Maker) { want = body(m) })
	got, errno := ir.Run(p, api.MaxHeap, api.MaxFuel)
	if errno != api.OK || got.End != api.Done || len(got.Lines) != len(want) {
		t.Errorf("%v: %d lines, end %d, %v; want %d lines", what, len(got.Lines), got.End, errno, len(want))
		return
	}
	for i, n := range want {
		if got.Lines[i] != strconv.Itoa(n) {
			t.Errorf("%v: line %d: %s, want %d, of %v", what, i, got.Lines[i], n, want)
			return
		}
	}
}

// wantRoom: with a heap of so many words it is done, with one word less it is not.
func wantRoom(t *testing.T, what any, data []int, room int, body func(m *emit.Maker)) {
	t.Helper()
	p := program(data, body)
	for heap, end := range map[int]int{room: api.Done, room - 1: api.BadRoom} {
		got, errno := ir.Run(p, heap, api.MaxFuel)
		if errno != api.OK || got.End != end || len(got.Lines) > 0 {
			t.Errorf("%v, %d words: %q, %d, %v; want %d", what, heap, got.Lines, got.End, errno, end)
		}
	}
}

// call a function with numbers.
func call(m *emit.Maker, name string, results int, args ...int) []int {
	var vars []int
	for _, n := range args {
		vars = append(vars, m.Num(n))
	}
	return m.Call(name, results, vars...)
}

// show variables.
func show(m *emit.Maker, vars ...int) {
	for _, v := range vars {
		m.Do(api.Instr{Op: api.Show, S: "int", As: []int{v}})
	}
}

// printHeap: how many words it has, and so many of them.
func printHeap(m *emit.Maker, words int) {
	zero := m.Num(0)
	show(m, m.Alloc(zero))
	for i := range words {
		show(m, m.Load(zero, i))
	}
}

// heapLines: what printHeap prints of a heap.
func heapLines(heap []int) []int { return append([]int{len(heap)}, heap...) }

// wordsOf a text.
func wordsOf(s string) []int {
	words := make([]int, len(s))
	for i := range words {
		words[i] = int(s[i])
	}
	return words
}

// textOf so many words.
func textOf(words []int) string {
	s := make([]byte, len(words))
	for i, w := range words {
		s[i] = byte(w)
	}
	return string(s)
}

func truth(b bool) int {
	if b {
		return 1
	}
	return 0
}

// die: numbers that look drawn, the same each time.
type die uint64

func (d *die) n(most int) int {
	*d = *d*6364136223846793005 + 1442695040888963407
	return int(uint64(*d>>33) % uint64(most))
}

func (d *die) one(l ...int) int { return l[d.n(len(l))] }

// words: at most so many, of these.
func (d *die) words(most int, of ...int) []int {
	words := make([]int, d.n(most+1))
	for i := range words {
		words[i] = d.one(of...)
	}
	return words
}

// part of so many words: where it begins, and how many there are of it.
func (d *die) part(words int) (from, long int) {
	from = d.n(words + 1)
	return from, d.n(words - from + 1)
}
