package ir

import (
	"strconv"

	"postern/api"
)

// Kinds of what is shown.
const (
	showInt  = "int"
	showBool = "bool"
	showText = "text"
)

// place of the word that is so many words behind an address; false: it is not there.
func (m *machine) place(address, behind int) (int, bool) {
	at := address + behind // if it goes round it is below 0, as the address is not
	return at, address >= 0 && at >= 0 && at < len(m.heap)
}

func (m *machine) load(address, behind int) (int, int) {
	at, ok := m.place(address, behind)
	if !ok {
		return 0, api.BadAt
	}
	return m.heap[at], goesOn
}

func (m *machine) store(address, behind, n int) int {
	at, ok := m.place(address, behind)
	if !ok {
		return api.BadAt
	}
	m.heap[at] = n
	return goesOn
}

// alloc so many words; the address of the first one.
func (m *machine) alloc(n int) (int, int) {
	at := len(m.heap)
	if n < 0 {
		return 0, api.BadAt
	}
	if n > m.room-at {
		return 0, api.BadRoom
	}
	m.heap = append(m.heap, make([]int, n)...)
	return at, goesOn
}

func (m *machine) show(in api.Instr) int {
	if len(m.lines) == api.MaxPrint {
		return api.BadLong
	}
	line, ok := m.line(in)
	if !ok {
		return api.BadAt
	}
	m.lines = append(m.lines, line)
	return goesOn
}

// line that is shown; false: of a text that is not all there.
func (m *machine) line(in api.Instr) (string, bool) {
	n := m.get(in.As[0])
	switch in.S {
	case showInt:
		return strconv.Itoa(n), true
	case showBool:
		return strconv.FormatBool(n != 0), true
	}
	return m.text(n, m.get(in.As[1]))
}

func (m *machine) text(address, n int) (string, bool) {
	if n == 0 { // wherever it is, none of its words is missing
		return "", true
	}
	if n < 0 || address < 0 || address > len(m.heap)-n {
		return "", false
	}
	line := make([]byte, n)
	for i, word := range m.heap[address : address+n] {
		line[i] = byte(word)
	}
	return string(line), true
}
