// Package step: what instructions do to the heap, and to what is printed, and where they lead; ir and vm both ask it, each with variables of its own.
package step

import (
	"slices"

	"postern/api"
	"postern/calc"
)

// GoesOn: no way in which a run ends.
const GoesOn = 0

// State of a run, beside its calls.
type State struct {
	Lines []string // that were printed
	heap  []int
	room  int // so many words the heap can have
}

// New state, with these words on its heap.
func New(data []int, room int) *State {
	return &State{heap: slices.Clone(data), room: room}
}

// Do an instruction that does not lead elsewhere; get: what a variable is, set: its result. It answers how the run ends by that, or GoesOn.
func (s *State) Do(in api.Instr, get func(v int) int, set func(n int)) int {
	switch in.Op {
	case api.Store:
		return s.store(get(in.As[0]), in.N, get(in.As[1]))
	case api.Show:
		return s.show(in, get)
	case api.Fail:
		return in.N
	}
	n, end := s.value(in, get)
	if end == GoesOn {
		set(n)
	}
	return end
}

// value of an instruction that has one result, and whether the run ends by that.
func (s *State) value(in api.Instr, get func(v int) int) (int, int) {
	switch in.Op {
	case api.Const:
		return in.N, GoesOn
	case api.Math:
		n, ok := calc.Two(get(in.As[0]), in.S, get(in.As[1]))
		if !ok {
			return 0, api.BadZero
		}
		return n, GoesOn
	case api.Load:
		return s.load(get(in.As[0]), in.N)
	case api.Alloc:
		return s.alloc(get(in.As[0]))
	}
	return get(in.As[0]), GoesOn
}

// Way: which one of its places a Jump, a Choose or a Pick goes on with.
func Way(in api.Instr, get func(v int) int) int {
	switch in.Op {
	case api.Choose:
		if get(in.As[0]) == 0 {
			return 1
		}
	case api.Pick:
		last := len(in.To) - 1
		if n := get(in.As[0]); 0 <= n && n < last {
			return n
		}
		return last
	}
	return 0
}
