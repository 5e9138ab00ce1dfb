package rt_test

import (
	"fmt"
	"slices"
	"testing"

	"postern/emit"
)

var texts = []string{
	"", "a", "b", "aa", "ab", "ba", "abc", "abd", "ab\x00", "\x00", "\x00\x00", "\x7f", "\x80", "\xff", "\xff\x00", "a\xff",
	"日本", "a text of some more bytes", "a text of some more bits",
}

// eachTwo texts, as the words of both, one behind the other.
func eachTwo(do func(what, a, b string, data []int)) {
	for _, a := range texts {
		for _, b := range texts {
			do(fmt.Sprintf("%q, %q", a, b), a, b, slices.Concat(wordsOf(a), wordsOf(b)))
		}
	}
}

// wantCat: a text of two that are parts of the heap, behind all that is there.
func wantCat(t *testing.T, what any, data []int, a, along, b, blong int) {
	t.Helper()
	both := slices.Concat(data[a:a+along], data[b:b+blong])
	heap := slices.Concat(data, both)
	wantInts(t, what, data, func(m *emit.Maker) []int {
		show(m, call(m, "_cat", 2, a, along, b, blong)...)
		printHeap(m, len(heap))
		return slices.Concat([]int{len(data), len(both)}, heapLines(heap))
	})
}

func TestCat(t *testing.T) {
	eachTwo(func(what, a, b string, data []int) {
		wantCat(t, what, data, 0, len(a), len(a), len(b))
		wantCat(t, what+", the other way round", data, len(a), len(b), 0, len(a))
	})
}

// TestCatOfParts: texts may share words, and stand anywhere.
func TestCatOfParts(t *testing.T) {
	d := die(1)
	for range 500 {
		data := d.words(20, 0, 97, 98, 255)
		a, along := d.part(len(data))
		b, blong := d.part(len(data))
		wantCat(t, fmt.Sprint(data, a, along, b, blong), data, a, along, b, blong)
	}
}

// TestCatAgain: a text that was made is one like others; an empty one, too.
func TestCatAgain(t *testing.T) {
	data := wordsOf("ab")
	want := wordsOf("ab" + "abab" + "" + "abababab")
	wantInts(t, "again", data, func(m *emit.Maker) []int {
		twice := call(m, "_cat", 2, 0, 2, 0, 2)
		none := call(m, "_cat", 2, 1, 0, 2, 0)
		show(m, none...)
		all := m.Call("_cat", 2, twice[0], twice[1], twice[0], twice[1])
		same := m.Call("_cat", 2, none[0], none[1], all[0], all[1])
		show(m, same...)
		printHeap(m, len(want)+8)
		return slices.Concat([]int{6, 0, 14, 8}, heapLines(slices.Concat(want, wordsOf("abababab"))))
	})
}

func TestCatRoom(t *testing.T) {
	wantRoom(t, "some words", wordsOf("abc"), 8, func(m *emit.Maker) { call(m, "_cat", 2, 0, 3, 1, 2) })
	wantRoom(t, "two times", wordsOf("abc"), 13, func(m *emit.Maker) {
		call(m, "_cat", 2, 0, 3, 1, 2)
		call(m, "_cat", 2, 0, 0, 3, 5)
	})
	wantInts(t, "none, on no heap", nil, func(m *emit.Maker) []int {
		show(m, call(m, "_cat", 2, 0, 0, 0, 0)...)
		return []int{0, 0}
	})
}

// wantCompared: what both functions tell of two parts of the heap, which stays as it is.
func wantCompared(t *testing.T, what any, data []int, a, along, b, blong int) {
	t.Helper()
	first, second := textOf(data[a:a+along]), textOf(data[b:b+blong])
	wantInts(t, what, data, func(m *emit.Maker) []int {
		show(m, call(m, "_same", 1, a, along, b, blong)...)
		show(m, call(m, "_less", 1, a, along, b, blong)...)
		printHeap(m, len(data))
		return slices.Concat([]int{truth(first == second), truth(first < second)}, heapLines(data))
	})
}

func TestCompared(t *testing.T) {
	eachTwo(func(what, a, b string, data []int) {
		wantCompared(t, what, data, 0, len(a), len(a), len(b))
	})
}

// TestComparedParts: texts may share words; what stands behind their ends does not count.
func TestComparedParts(t *testing.T) {
	data := []int{1, 0, 1, 0, 255, 1, 0, 1}
	for n := range 8 * 8 * 8 * 8 {
		a, along, b, blong := n%8, n/8%8, n/64%8, n/512
		if a+along <= len(data) && b+blong <= len(data) {
			wantCompared(t, []int{a, along, b, blong}, data, a, along, b, blong)
		}
	}
	d := die(2)
	for range 500 {
		data := d.words(30, 97, 97, 97, 97, 97, 98)
		a, along := d.part(len(data))
		b, blong := d.part(len(data))
		wantCompared(t, fmt.Sprint(data, a, along, b, blong), data, a, along, b, blong)
	}
}
