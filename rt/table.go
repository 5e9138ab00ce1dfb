package rt

import "postern/emit"

// findName: the functions that look for a key call this one.
const findName = "_find"

// Words of a map, behind its address.
const (
	mapEver  = 0 // how many entries came
	mapRoom  = 1 // for how many there is room
	mapWhere = 2 // the address of the first one
	mapLive  = 3 // how many live
	mapWords = 4
)

// Words of an entry, behind its address.
const (
	entryKey   = 0
	entryValue = 1
	entryLives = 2
	entryWords = 3
)

// newRoom: for so many entries there is room in a new map.
const newRoom = 4

// newMap, with its entries right behind it.
func newMap(m *emit.Maker, _ []int) {
	table := m.Alloc(m.Num(mapWords + newRoom*entryWords))
	m.Store(table, mapRoom, m.Num(newRoom))
	m.Store(table, mapWhere, m.Math(table, "+", m.Num(mapWords)))
	m.Back(table)
}

// find the entry with a key.
func find(m *emit.Maker, params []int) {
	table, key := params[0], params[1]
	words := m.Num(entryWords)
	entry := m.Load(table, mapWhere)
	end := behindAll(m, entry, m.Load(table, mapEver), words)
	m.While(func() int { return m.Math(entry, "<", end) }, func() {
		m.When(m.Math(m.Load(entry, entryKey), "==", key), func() {
			m.When(m.Load(entry, entryLives), func() { m.Back(entry) })
		})
		m.Change(entry, "+", words)
	})
	m.Back(m.Num(-1))
}

// behindAll: the address behind so many entries.
func behindAll(m *emit.Maker, where, ever, words int) int {
	return m.Math(where, "+", m.Math(ever, "*", words))
}

// whenFound: what is done with the entry with a key, if there is one.
func whenFound(m *emit.Maker, table, key int, do func(entry int)) {
	entry := m.Call(findName, 1, table, key)[0]
	m.When(m.Math(entry, ">=", m.Num(0)), func() { do(entry) })
}

// get the value of a key.
func get(m *emit.Maker, params []int) {
	whenFound(m, params[0], params[1], func(entry int) { m.Back(m.Load(entry, entryValue)) })
	m.Back(m.Num(0))
}

// put a value to a key.
func put(m *emit.Maker, params []int) {
	table, key, value := params[0], params[1], params[2]
	whenFound(m, table, key, func(entry int) {
		m.Store(entry, entryValue, value)
		m.Back()
	})
	words := m.Num(entryWords)
	ever, room := m.Load(table, mapEver), m.Load(table, mapRoom)
	m.When(m.Math(ever, ">=", room), func() { widen(m, table, ever, room, words) })
	entry := behindAll(m, m.Load(table, mapWhere), ever, words)
	one := m.Num(1)
	m.Store(entry, entryKey, key)
	m.Store(entry, entryValue, value)
	m.Store(entry, entryLives, one)
	m.Store(table, mapEver, m.Math(ever, "+", one))
	m.Store(table, mapLive, m.Math(m.Load(table, mapLive), "+", one))
	m.Back()
}

// widen a map: twice as much room, and all its entries there.
func widen(m *emit.Maker, table, ever, room, words int) {
	wide := m.Math(room, "+", room)
	where := m.Alloc(m.Math(wide, "*", words))
	old := m.Load(table, mapWhere)
	carry(m, old, behindAll(m, old, ever, words), m.Copy(where))
	m.Store(table, mapRoom, wide)
	m.Store(table, mapWhere, where)
}

// drop the entry with a key.
func drop(m *emit.Maker, params []int) {
	table := params[0]
	whenFound(m, table, params[1], func(entry int) {
		m.Store(entry, entryLives, m.Num(0))
		m.Store(table, mapLive, m.Math(m.Load(table, mapLive), "-", m.Num(1)))
	})
	m.Back()
}
