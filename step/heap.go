package step

import (
	"strconv"

	"postern/api"
	"postern/sound"
)

// place of the word that is so many words behind an address; false: it is not there.
func (s *State) place(address, behind int) (int, bool) {
	at := address + behind // if it goes round it is below 0, as the address is not
	return at, address >= 0 && at >= 0 && at < len(s.heap)
}

func (s *State) load(address, behind int) (int, int) {
	at, ok := s.place(address, behind)
	if !ok {
		return 0, api.BadAt
	}
	return s.heap[at], GoesOn
}

func (s *State) store(address, behind, n int) int {
	at, ok := s.place(address, behind)
	if !ok {
		return api.BadAt
	}
	s.heap[at] = n
	return GoesOn
}

// alloc so many words; the address of the first one.
func (s *State) alloc(n int) (int, int) {
	at := len(s.heap)
	if n < 0 {
		return 0, api.BadAt
	}
	if n > s.room-at {
		return 0, api.BadRoom
	}
	s.heap = append(s.heap, make([]int, n)...)
	return at, GoesOn
}

func (s *State) show(in api.Instr, get func(v int) int) int {
	if len(s.Lines) == api.MaxPrint {
		return api.BadLong
	}
	line, ok := s.line(in, get)
	if !ok {
		return api.BadAt
	}
	s.Lines = append(s.Lines, line)
	return GoesOn
}

// line that is shown; false: of a text that is not all there.
func (s *State) line(in api.Instr, get func(v int) int) (string, bool) {
	n := get(in.As[0])
	switch in.S {
	case sound.ShowInt:
		return strconv.Itoa(n), true
	case sound.ShowBool:
		return strconv.FormatBool(n != 0), true
	}
	return s.text(n, get(in.As[1]))
}

func (s *State) text(address, n int) (string, bool) {
	if n == 0 { // wherever it is, none of its words is missing
		return "", true
	}
	if n < 0 || address < 0 || address > len(s.heap)-n {
		return "", false
	}
	line := make([]byte, n)
	for i, word := range s.heap[address : address+n] {
		line[i] = byte(word)
	}
	return string(line), true
}
