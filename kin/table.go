package kin

import "strings"

// rowTable remembers, for all places together, the answer that was last found of those questions that share an entry.
type rowTable struct {
	room [maxTable]row
	size int // how much of the room is made use of
}

// entries are the table's rows; those of which the class is nil are empty.
func (t *rowTable) entries() []row {
	return t.room[:t.size]
}

// entryFor is the one entry in which the answer to a question may stand.
func (t *rowTable) entryFor(q question) *row {
	entries := t.entries()
	return &entries[q.hash()%uint32(len(entries))]
}

// hash is that of the selector by FNV-1a, and the class's number added to it, so that one selector's answers for several classes lie side by side, and not one on another.
func (q question) hash() uint32 {
	const start, prime = 2166136261, 16777619
	h := uint32(start)
	for _, b := range []byte(q.selector) {
		h = (h ^ uint32(b)) * prime
	}
	return h + uint32(q.from.number)
}

// keptRow makes a row that may outlast its question's text, which may be a piece of a far greater one.
func keptRow(q question, found finding) row {
	q.selector = strings.Clone(q.selector)
	return row{q, found}
}

// forget empties entries.
func (t *rowTable) forget(leans func(row) bool) {
	entries := t.entries()
	for i, r := range entries {
		if leans(r) {
			entries[i] = row{}
		}
	}
}
