package kin

// question is what a send asks: which method a selector has from a class on.
type question struct {
	from     *class
	selector string
}

// finding is what the classes answer: the method and the class that has it, or neither.
type finding struct {
	home   *class
	method *method
}

// row is a question that was answered, as it is remembered.
type row struct {
	question
	finding
}

// cameTo tells whether the way up the classes that was gone for the row came to c. Where nothing was found, it was gone to its end.
func (r row) cameTo(c *class) bool {
	return r.from.isOrIsBelow(c) && (r.home == nil || c.isOrIsBelow(r.home))
}

// find answers a send's question: by what its place remembers, else by the table. Where there is no class to look from, it has looked all the same.
func (m *Image) find(at *place, q question) finding {
	m.looks++
	if q.from == nil {
		return finding{}
	}
	found, known := at.recall(q)
	if !known {
		found = m.findByTable(q)
		at.memory = at.learn(row{q, found}, m.places)
	}
	return found
}

// findByTable goes through the classes only if the table has not the answer, and lets it have that from then on.
func (m *Image) findByTable(q question) finding {
	e := m.table.entryFor(q)
	if e.question != q {
		m.climbs++
		*e = keptRow(q, q.from.find(q.selector))
	}
	return e.finding
}

// find goes up from c to the first class that has such a method.
func (c *class) find(selector string) finding {
	for ; c != nil; c = c.above {
		if f := c.methods[selector]; f != nil {
			return finding{c, f}
		}
	}
	return finding{}
}
