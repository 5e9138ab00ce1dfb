package rt_test

import (
	"fmt"
	"slices"
	"testing"

	"postern/emit"
)

// slice: where it is, how many words it has, for how many there is room.
type slice struct{ address, long, room int }

// added: what a heap and a slice are when a number came to it.
func added(heap []int, s slice, number int) ([]int, slice) {
	heap = slices.Clone(heap)
	if s.long == s.room {
		words := heap[s.address : s.address+s.long]
		s.address = len(heap)
		s.room = max(4, 2*s.room)
		heap = append(append(heap, words...), make([]int, s.room-s.long)...)
	}
	heap[s.address+s.long] = number
	s.long++
	return heap, s
}

// wantAdded: a number comes to a slice that is a part of the heap.
func wantAdded(t *testing.T, data []int, s slice, number int) {
	t.Helper()
	heap, longer := added(data, s, number)
	wantInts(t, fmt.Sprint(data, s, number), data, func(m *emit.Maker) []int {
		show(m, call(m, "_add", 3, s.address, s.long, s.room, number)...)
		printHeap(m, len(heap))
		return slices.Concat([]int{longer.address, longer.long, longer.room}, heapLines(heap))
	})
}

// TestAdd to each slice of a small heap.
func TestAdd(t *testing.T) {
	data := []int{11, 12, -13, 14, least, greatest, 17, 18, 19}
	for address := range data {
		for room := range len(data) - address + 1 {
			for long := range room + 1 {
				wantAdded(t, data, slice{address, long, room}, 77)
			}
		}
	}
}

func TestAddedNumbers(t *testing.T) {
	for _, n := range []int{0, 1, -1, 255, 256, least, greatest} {
		wantAdded(t, []int{5}, slice{0, 0, 1}, n)
		wantAdded(t, []int{5}, slice{0, 1, 1}, n)
		wantAdded(t, nil, slice{0, 0, 0}, n)
	}
}

// TestAddRoom: twice as much, 4 at least, and no word more.
func TestAddRoom(t *testing.T) {
	data := []int{1, 2, 3, 4, 5, 6, 7, 8, 9}
	for room, more := range []int{4, 4, 4, 6, 8, 10, 12, 14, 16, 18} {
		wantRoom(t, room, data, len(data)+more, func(m *emit.Maker) { call(m, "_add", 3, 0, room, room, 7) })
	}
}

// TestAddTwice to one slice: with room, the second number is where the first one was; without, each has a new place.
func TestAddTwice(t *testing.T) {
	twice := func(long int) func(m *emit.Maker) []int {
		return func(m *emit.Maker) []int {
			for n := range 2 {
				show(m, call(m, "_add", 3, 0, long, 2, 70+n)...)
			}
			printHeap(m, 2)
			if long == 1 {
				return []int{0, 2, 2, 0, 2, 2, 2, 1, 71}
			}
			return []int{2, 3, 4, 6, 3, 4, 10, 1, 2}
		}
	}
	wantInts(t, "with room", []int{1, 2}, twice(1))
	wantInts(t, "without room", []int{1, 2}, twice(2))
}

// TestAddOften: numbers come to drawn ones of several slices, of which some begin as one.
func TestAddOften(t *testing.T) {
	d := die(3)
	for range 60 {
		data := []int{1, 2, 3, 4, 5}
		wantInts(t, "often", data, func(m *emit.Maker) []int {
			heap := data
			have := []slice{{0, 0, 0}, {2, 1, 3}, {5, 0, 0}}
			var vars [][]int
			for _, s := range have {
				vars = append(vars, []int{m.Num(s.address), m.Num(s.long), m.Num(s.room)})
			}
			for range d.n(40) {
				from, to, number := d.n(3), d.n(3), d.n(1000)
				args := append(slices.Clone(vars[from]), m.Num(number))
				vars[to] = m.Call("_add", 3, args...)
				heap, have[to] = added(heap, have[from], number)
			}
			var want []int
			for i, s := range have {
				show(m, vars[i]...)
				want = append(want, s.address, s.long, s.room)
			}
			printHeap(m, len(heap))
			return append(want, heapLines(heap)...)
		})
	}
}
