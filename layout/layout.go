// Package layout: which word of texts, slices and maps is which, for the code that makes them and the code that asks them.
package layout

// Words of a text and of a slice.
const (
	Address = 0
	Long    = 1 // how many words it has
	Room    = 2 // of a slice: for how many there is room
)

// Words of a map, behind its address.
const (
	MapEver  = 0 // how many entries came
	MapRoom  = 1 // for how many there is room
	MapWhere = 2 // the address of the first one
	MapLive  = 3 // how many live
	MapWords = 4
)

// Words of an entry, behind its address.
const (
	EntryKey   = 0
	EntryValue = 1
	EntryLives = 2
	EntryWords = 3
)
