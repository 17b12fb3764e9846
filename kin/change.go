package kin

// placeSet is places in no order.
type placeSet map[*place]struct{}

// forget lets each of the places forget rows.
func (s placeSet) forget(leans func(row) bool) {
	for p := range s {
		p.memory = p.forget(leans)
	}
}

// forgetAll lets each of the places begin anew, also those that had given up.
func (s placeSet) forgetAll() {
	for p := range s {
		p.memory = emptyMemory{}
	}
}

// give lets a class have a method by a selector, in place of one that it had.
func (m *Image) give(c *class, selector string, f *method) {
	had := c.methods[selector]
	c.methods[selector] = f
	m.addHome(f) // ahead of what follows: both may be the same, and must not be without a class between
	if had != nil {
		m.takeHome(had)
	}
	m.methodChanged(c, selector)
}

// takeAway takes the method that a class has by a selector from it.
func (m *Image) takeAway(c *class, selector string) {
	had := c.methods[selector]
	delete(c.methods, selector)
	m.takeHome(had)
	m.methodChanged(c, selector)
}

// addHome notes that one more class has a method. With the first one its places are among those that are told of changes.
func (m *Image) addHome(f *method) {
	f.homes++
	if f.homes > 1 {
		return
	}
	for _, w := range f.words {
		if w.place == nil {
			continue
		}
		if m.senders[w.selector] == nil {
			m.senders[w.selector] = placeSet{}
		}
		m.senders[w.selector][w.place] = struct{}{}
	}
}

// takeHome notes that one class fewer has a method. Without any its places are told of changes no more; it may yet run on, so they remember nothing from then on.
func (m *Image) takeHome(f *method) {
	f.homes--
	if f.homes > 0 {
		return
	}
	for _, w := range f.words {
		if w.place == nil {
			continue
		}
		w.place.memory = tableOnly{}
		delete(m.senders[w.selector], w.place)
		if len(m.senders[w.selector]) == 0 {
			delete(m.senders, w.selector)
		}
	}
}

// methodChanged takes out what leans on the method that a class had by a selector, or on that it had none.
func (m *Image) methodChanged(c *class, selector string) {
	leans := func(r row) bool { return r.selector == selector && r.cameTo(c) }
	m.senders[selector].forget(leans)
	m.table.forget(leans)
}

// classMoves takes out what leans on what is above a class. It must be told ahead of the move, as the ways that were gone are the old ones.
func (m *Image) classMoves(c *class) {
	leans := func(r row) bool { return r.cameTo(c) && r.home != c }
	for _, places := range m.senders {
		places.forget(leans)
	}
	m.table.forget(leans)
}

// forgetSelector takes out all that is remembered of a selector.
func (m *Image) forgetSelector(selector string) {
	m.senders[selector].forgetAll()
	m.table.forget(func(r row) bool { return r.selector == selector })
}

// forgetAll takes out all that is remembered.
func (m *Image) forgetAll() {
	for _, places := range m.senders {
		places.forgetAll()
	}
	clear(m.table.entries())
}
