package bitset_test

import (
	"slices"
	"testing"

	"postern/bitset"
)

// of some numbers a set that can have those below 200.
func of(l ...int) bitset.Set {
	s := bitset.New(200)
	s.Add(l...)
	return s
}

func want(t *testing.T, what string, s bitset.Set, l ...int) {
	t.Helper()
	if !slices.Equal(s.All(), l) {
		t.Errorf("%s: %v, want %v", what, s.All(), l)
	}
	for n := range 200 {
		if s.Has(n) != slices.Contains(l, n) {
			t.Errorf("%s: has it %d? %v", what, n, s.Has(n))
		}
	}
}

func TestAddAndDrop(t *testing.T) {
	want(t, "none", of())
	want(t, "edges of words", of(64, 0, 63, 199, 127, 128, 0), 0, 63, 64, 127, 128, 199)
	s := of(1, 2, 3, 65, 66)
	s.Drop(2, 66, 7, 199)
	want(t, "dropped", s, 1, 3, 65)
	for below, words := range map[int]int{0: 0, 1: 1, 64: 1, 65: 2, 3000: 47} {
		if got := len(bitset.New(below)); got != words {
			t.Errorf("%d numbers: %d words", below, got)
		}
	}
}

func TestJoin(t *testing.T) {
	s := of(1, 100)
	s.Join(of(2, 100, 199))
	want(t, "joined", s, 1, 2, 100, 199)
	s = of(1, 100)
	if s.JoinBut(of(1, 3, 150), of(3, 150, 100)) {
		t.Error("something is new")
	}
	want(t, "nothing is new", s, 1, 100)
	if !s.JoinBut(of(1, 3, 4, 150), of(3, 100)) {
		t.Error("nothing is new")
	}
	want(t, "joined but one", s, 1, 4, 100, 150)
}

func TestMeets(t *testing.T) {
	if !of(1, 150).Meets(of(2, 150)) || of(1, 150).Meets(of(2, 151)) || of().Meets(of(3)) {
		t.Error("which sets meet?")
	}
}
