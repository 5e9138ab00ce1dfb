package rt

import (
	"postern/emit"
	"postern/layout"
)

// findName: the functions that look for a key call this one.
const findName = "_find"

// newRoom: for so many entries there is room in a new map.
const newRoom = 4

// newMap, with its entries right behind it.
func newMap(m *emit.Maker, _ []int) {
	table := m.Alloc(m.Num(layout.MapWords + newRoom*layout.EntryWords))
	m.Store(table, layout.MapRoom, m.Num(newRoom))
	m.Store(table, layout.MapWhere, m.Math(table, "+", m.Num(layout.MapWords)))
	m.Back(table)
}

// find the entry with a key.
func find(m *emit.Maker, params []int) {
	table, key := params[0], params[1]
	words := m.Num(layout.EntryWords)
	entry := m.Load(table, layout.MapWhere)
	end := behindAll(m, entry, m.Load(table, layout.MapEver), words)
	m.While(func() int { return m.Math(entry, "<", end) }, func() {
		m.When(m.Math(m.Load(entry, layout.EntryKey), "==", key), func() {
			m.When(m.Load(entry, layout.EntryLives), func() { m.Back(entry) })
		})
		m.Change(entry, "+", words)
	})
	m.Back(m.Num(-1))
}

// behindAll: the address behind so many entries.
func behindAll(m *emit.Maker, where, ever, words int) int {
	return m.Math(where, "+", m.Math(ever, "*", words))
}

// whenFound: what is done with the entry with a key, if there is one.
func whenFound(m *emit.Maker, table, key int, do func(entry int)) {
	entry := m.Call(findName, 1, table, key)[0]
	m.When(m.Math(entry, ">=", m.Num(0)), func() { do(entry) })
}

// get the value of a key.
func get(m *emit.Maker, params []int) {
	whenFound(m, params[0], params[1], func(entry int) { m.Back(m.Load(entry, layout.EntryValue)) })
	m.Back(m.Num(0))
}

// put a value to a key.
func put(m *emit.Maker, params []int) {
	table, key, value := params[0], params[1], params[2]
	whenFound(m, table, key, func(entry int) {
		m.Store(entry, layout.EntryValue, value)
		m.Back()
	})
	words := m.Num(layout.EntryWords)
	ever, room := m.Load(table, layout.MapEver), m.Load(table, layout.MapRoom)
	m.When(m.Math(ever, ">=", room), func() { widen(m, table, ever, room, words) })
	entry := behindAll(m, m.Load(table, layout.MapWhere), ever, words)
	one := m.Num(1)
	m.Store(entry, layout.EntryKey, key)
	m.Store(entry, layout.EntryValue, value)
	m.Store(entry, layout.EntryLives, one)
	m.Store(table, layout.MapEver, m.Math(ever, "+", one))
	m.Store(table, layout.MapLive, m.Math(m.Load(table, layout.MapLive), "+", one))
	m.Back()
}

// widen a map: twice as much room, and all its entries there.
func widen(m *emit.Maker, table, ever, room, words int) {
	wide := m.Math(room, "+", room)
	where := m.Alloc(m.Math(wide, "*", words))
	old := m.Load(table, layout.MapWhere)
	carry(m, old, behindAll(m, old, ever, words), m.Copy(where))
	m.Store(table, layout.MapRoom, wide)
	m.Store(table, layout.MapWhere, where)
}

// drop the entry with a key.
func drop(m *emit.Maker, params []int) {
	table := params[0]
	whenFound(m, table, params[1], func(entry int) {
		m.Store(entry, layout.EntryLives, m.Num(0))
		m.Store(table, layout.MapLive, m.Math(m.Load(table, layout.MapLive), "-", m.Num(1)))
	})
	m.Back()
}
